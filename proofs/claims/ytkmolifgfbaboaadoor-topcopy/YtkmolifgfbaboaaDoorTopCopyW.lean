/- Walk of the law TopCopy. -/
import Derived.Test.YtkmolifgfbaboaaDoorDoL
import Derived.Test.YtkmolifgfbaboaaDoorSoA
import Derived.Test.YtkmolifgfbaboaaDoorOlB
import Derived.Test.YtkmolifgfbaboaaDoorNumB
namespace Go.Proofs.YtkmolifgfbaboaaDoor
open Go.RowKit

theorem mem_setO (x : Po) : ∀ os : List Po, x ∈ setO os x := by
  intro os
  induction os with
  | nil => simp [setO]
  | cons a r ih =>
    unfold setO
    split
    · simp
    · split
      · simp
      · simp [ih]
theorem find_same (x : Po) (os : List Po) (h : SortO os) : (setO os x).find? (fun o => decide (o.id = x.id)) = some x := by
  obtain ⟨i, hi, e⟩ := List.mem_iff_getElem.1 (mem_setO x os)
  have e2 : (setO os x).getD i po0 = x := by rw [List.getD_eq_getElem?_getD, List.getElem?_eq_getElem hi]; exact e
  have := find_at (setO os x) x.id (setO_sort x os h) i hi (by rw [e2])
  rwa [e2] at this
/-- the copy -/
@[reducible] def cpQ (f t : Int) : Pq := ⟨6, f, t, 0, 0, 0, 0, 0, []⟩
theorem do_cp_none (os : List Po) (f t : Int) (h : os.find? (fun o => decide (o.id = f)) = none) : doO os (cpQ f t) = .inr 5 := by
  unfold doO
  rw [if_neg (show ¬ (6 : Int) = 2 by decide)]
  simp only [h]
theorem do_cp_some (os : List Po) (f t : Int) (o : Po) (h : os.find? (fun o => decide (o.id = f)) = some o) : doO os (cpQ f t) = .inl (setO os { o with id := t }) := by
  unfold doO
  rw [if_neg (show ¬ (6 : Int) = 2 by decide)]
  simp only [h]
  rw [if_neg (by decide)]
  rfl
theorem pre_cp (os : List Po) (f t : Int) (hg : GoodO os) : DoPre os (cpQ f t) :=
  ⟨by have := hg.few; omega, fun j hj => by have := hg.pix j hj; omega, hg.sort, fun j hj => ((fault_iff _).1 (hg.ok j hj)).2.2.2, by simp, fun h => by simp at h⟩
/-- an op of an object -/
theorem op_of_id (q : Pq) (h : opC q = 0) (hi : q.id ≠ 0) : q.kind = 2 ∨ q.kind = 3 ∨ q.kind = 4 ∨ q.kind = 5 ∨ q.kind = 6 ∨ q.kind = 7 ∨ q.kind = 8 ∨ q.kind = 9 := by
  cases hk : kindAt q.kind shps with
  | none => unfold opC at h; rw [hk] at h; simp at h
  | some s =>
    obtain ⟨h1, _⟩ := op_shape q h s hk
    obtain ⟨hm, he⟩ := kindAt_mem q.kind shps s hk
    simp only [shps, List.mem_cons, List.not_mem_nil, or_false] at hm
    rcases hm with rfl | rfl | rfl | rfl | rfl | rfl | rfl | rfl | rfl | rfl | rfl | rfl | rfl | rfl | rfl | rfl <;> simp only at he <;> first
      | omega
      | (exfalso; simp [forL, hi] at h1)
theorem do_some (os : List Po) (q : Pq) (h : opC q = 0) (hi : q.id ≠ 0) (o : Po) (hf : os.find? (fun o => decide (o.id = q.id)) = some o) : ∃ rs, doO os q = .inl rs := by
  have hk := op_of_id q h hi
  unfold doO
  rw [hf]
  split
  · exact ⟨_, rfl⟩
  simp only
  split
  · exact ⟨_, rfl⟩
  have : ∃ x, actO q o = some x := by
    unfold actO
    split
    · exact ⟨_, rfl⟩
    split
    · exact ⟨_, rfl⟩
    split
    · exact ⟨_, rfl⟩
    split
    · exact ⟨_, rfl⟩
    split
    · exact ⟨_, rfl⟩
    split
    · exact ⟨_, rfl⟩
    omega
  obtain ⟨x, hx⟩ := this
  rw [hx]
  exact ⟨_, rfl⟩
/-- Get's answer, by find?, with a row of its own -/
theorem get_own {os : List Po} {t : Int} {w : World} {e : Ending} {w' : World} (h : GetP os t w e w') (hs : SortO os) : Below w.heap.size w w' ∧ ((∃ o u, os.find? (fun o => decide (o.id = t)) = some o ∧ o ∈ os ∧ e = .returned (.tuple #[poV o u, .bool true]) ∧ w'.ownsRow (w.heap.size + 1) 33 2 u o.ps.length (pixCells o.ps)) ∨ (os.find? (fun o => decide (o.id = t)) = none ∧ e = .returned (.tuple #[poV po0 (.slice none 0 0), .bool false]))) := by
  obtain ⟨hb, h⟩ := h
  refine ⟨hb, ?_⟩
  rcases h with ⟨i, u, hi, hit, he, ho⟩ | ⟨hno, he⟩
  · exact .inl ⟨_, u, find_at os t hs i hi hit, getD_mem_po hi, he, ho⟩
  · exact .inr ⟨find_no os t hno, he⟩
theorem Nine.set1 {W : World} {b : Nat} {x0 x1 x2 x3 x4 x5 x6 x7 x8 : Value} (h : Nine W b x0 x1 x2 x3 x4 x5 x6 x7 x8) (y : Value) : Nine (W.setCell ⟨b, 1, none⟩ y) b x0 y x2 x3 x4 x5 x6 x7 x8 :=
  ⟨(cell_set_ne _ _ _ _ _ (by decide)).trans h.c0, World.cell?_setCell_same _ _ _ h.c1, (cell_set_ne _ _ _ _ _ (by decide)).trans h.c2, (cell_set_ne _ _ _ _ _ (by decide)).trans h.c3, (cell_set_ne _ _ _ _ _ (by decide)).trans h.c4, (cell_set_ne _ _ _ _ _ (by decide)).trans h.c5, (cell_set_ne _ _ _ _ _ (by decide)).trans h.c6, (cell_set_ne _ _ _ _ _ (by decide)).trans h.c7, (cell_set_ne _ _ _ _ _ (by decide)).trans h.c8,
    by simp [h.f0], by simp [h.f1], by simp [h.f2], by simp [h.f3], by simp [h.f4], by simp [h.f5], by simp [h.f6], by simp [h.f7], by simp [h.f8], by simpa using h.lt⟩
/-- the list with the copy -/
structure CpL (o : Po) (f t : Int) (ms : List Po) : Prop where
  fine : FineO ms
  new : ms.find? (fun z => decide (z.id = t)) = some { o with id := t }
  old : ms.find? (fun z => decide (z.id = f)) = some o
theorem cp_list (os : List Po) (hg : GoodO os) (o : Po) (f t : Int) (hne : t ≠ f) (ht : 1 ≤ t ∧ t ≤ 6) (ho : os.find? (fun o => decide (o.id = f)) = some o) : CpL o f t (setO os { o with id := t }) := by
  have hom := List.mem_of_find?_eq_some ho
  have hm := hg.fine.ok
  refine ⟨⟨fun z hz => ?_, setO_sort _ os hg.sort⟩, find_same { o with id := t } os hg.sort, ?_⟩
  · rcases setO_mem _ os z hz with rfl | hz
    · exact (fault_iff _).2 ⟨ht, ((fault_iff o).1 (hm o hom)).2⟩
    · exact hm z hz
  · rw [find_set { o with id := t } f hne os]; exact ho

set_option maxHeartbeats 40000000 in
set_option maxRecDepth 100000 in
theorem topCopy_any (v : Value) (os : List Po) (f t : Int) (q : Pq) (uq : Value) (w : World) (HS : Hid (Shapes w)) (h1 : 0 < w.heap.size) (HR : Hid (RdO w v os)) (HU : Hid (RdP w uq q.ps)) (hlq : q.ps.length ≤ 9223372036854775807) :
    Calls Tryd.prog 4 #[v, .int .i64 f, .int .i64 t, opV q uq] w fun e w' => e = .returned (.bool true) ∧ Below w.heap.size w w' := by
  obtain ⟨a, cap, hv, hl, hcap⟩ := HR.out.shape
  obtain ⟨n, HN⟩ : ∃ n, Hid (os.length = n) := ⟨_, (rfl : _ = _)⟩
  rw [HN.out] at hv hl
  subst hv
  obtain ⟨ap, cp, hvp, _, _, _⟩ := HU.out
  obtain ⟨np, HNP⟩ : ∃ n, Hid (q.ps.length = n) := ⟨_, (rfl : _ = _)⟩
  rw [HNP.out] at hvp hlq
  subst hvp
  obtain ⟨X0, HX0⟩ : ∃ X0, Hid (((w.alloc (.cells #[.int .i64 q.kind, .int .i64 q.id, .int .i64 q.a, .int .i64 q.b, .int .i64 q.c, .int .i64 q.d, .int .i64 q.pw, .int .i64 q.ph, .slice ap np cp] 27))).alloc (.cells #[.int .i64 0, .int .i64 0] 33) = X0) := ⟨_, (rfl : _ = _)⟩
  have hbz : Below w.heap.size w X0 := by rw [← HX0.out]; exact ((Below.refl _ _).alloc (Nat.le_refl _) _).alloc (by simp) _
  have N0 : Nine X0 w.heap.size (.int .i64 q.kind) (.int .i64 q.id) (.int .i64 q.a) (.int .i64 q.b) (.int .i64 q.c) (.int .i64 q.d) (.int .i64 q.pw) (.int .i64 q.ph) (.slice ap np cp) := by rw [← HX0.out]; exact (nine_start w _ _ _ _ _ _ _ _ _ 27 w.heap.size rfl).alloc _
  have T0 : Two X0 (w.heap.size + 1) (.int .i64 0) (.int .i64 0) := by rw [← HX0.out]; exact two_start _ _ _ 33 (w.heap.size + 1) (by simp)
  have HP0 : Hid (RdP X0 (.slice (some ⟨w.heap.size + 1, 0, none⟩) 1 1) [(0, 0)]) := ⟨some ⟨w.heap.size + 1, 0, none⟩, 1, rfl, by simp, by omega, fun _ => ⟨w.heap.size + 1, 0, rfl, T0.lt, fun j hj => by
    have : j = 0 := by simpa using hj
    subst this
    exact ⟨T0.c0, T0.c1⟩⟩⟩
  go_enter Tryd.func4, Tryd.ntmps4
  go_wp2_with fail
  rw [HX0.out]
  have hfr := fresh_any 3 1 1 _ [(0, 0)] X0 (by simp) HP0
  unfold picV at hfr
  refine hfr.mono ?_
  clear hfr
  unfold objV
  rintro e w1 ⟨u1, rfl, ho1, hb1⟩
  obtain ⟨a1, c1, hu1⟩ := own_any ho1
  subst hu1
  have hbx1 : Below w1.heap.size w1 (w1.alloc (.cells #[.int .i64 3, .int .i64 0, .int .i64 0, .int .i64 1, .int .i64 1, .slice a1 1 c1, .int .i64 0, .int .i64 0, .int .i64 20, .int .i64 20, .bool true] 41)) := (Below.refl _ _).alloc (Nat.le_refl _) _
  have E1 := eleven_start w1 (.int .i64 3) (.int .i64 0) (.int .i64 0) (.int .i64 1) (.int .i64 1) (.slice a1 1 c1) (.int .i64 0) (.int .i64 0) (.int .i64 20) (.int .i64 20) (.bool true) 41 w1.heap.size rfl
  have N1 := hid_of2 ((N0.on hb1).on hbx1)
  have hbb0 := hbz.trans (hb1.mono hbz.size)
  have hbb1 := hbb0.trans (hbx1.mono hbb0.size)
  have HR1 : Hid (RdO _ (.slice a n cap) os) := HR.out.on hbb1
  clear hb1 HX0 hbz N0 T0 HP0 hbx1 hbb0 ho1
  obtain ⟨s0, s1, s2, s3, s4, s5, s6, s7, s8, s9, s10, sf0, sf1, sf2, sf3, sf4, sf5, sf6, sf7, sf8, sf9, sf10, slt⟩ := E1
  go_wp2_with fail
  refine (lightO_any _ os _ HR1).mono ?_
  rintro e w2 ⟨bl, rfl, hgood, hb2⟩
  have N2 := hid_of2 (N1.out.on hb2)
  have hbb2 := hbb1.trans (hb2.mono hbb1.size)
  clear hb2 N1 HR1 hbb1 s0 s1 s2 s3 s4 s5 s6 s7 s8 s9 s10 sf0 sf1 sf2 sf3 sf4 sf5 sf6 sf7 sf8 sf9 sf10 slt
  cases bl with
  | false =>
    go_wp2_with fail
    go_ret
    exact ⟨rfl, hbb2⟩
  | true =>
    have HGO := hid_of2 (hgood rfl)
    clear hgood
    obtain ⟨m0, m1, m2, m3, m4, m5, m6, m7, m8, mf0, mf1, mf2, mf3, mf4, mf5, mf6, mf7, mf8, mlt⟩ := N2.out
    go_wp2_with fail
    by_cases hl80 : np ≤ 80
    case neg =>
      refine (light_any q.pw q.ph ap np cp _ hlq false (by unfold Hid; simp [hl80])).mono ?_
      rintro e w3 ⟨rfl, hb3⟩
      have hbb3 := hbb2.trans (hb3.mono hbb2.size)
      go_wp2_with fail
      go_ret
      exact ⟨rfl, hbb3⟩
    refine (light_any q.pw q.ph ap np cp _ hlq true (by unfold Hid; simp [hl80])).mono ?_
    rintro e w3 ⟨rfl, hb3⟩
    have hbb3 := hbb2.trans (hb3.mono hbb2.size)
    have N3 := hid_of2 (N2.out.on hb3)
    have hq80 : q.ps.length ≤ 80 := by rw [HNP.out]; exact hl80
    clear m0 m1 m2 m3 m4 m5 m6 m7 m8 mf0 mf1 mf2 mf3 mf4 mf5 mf6 mf7 mf8 mlt hb3 N2 hbb2
    by_cases hf1 : f < 1
    · go_wp2_with fail
      go_ret
      exact ⟨rfl, hbb3⟩
    by_cases hf2 : 6 < f
    · go_wp2_with fail
      go_ret
      exact ⟨rfl, hbb3⟩
    by_cases ht1 : t < 1
    · go_wp2_with fail
      go_ret
      exact ⟨rfl, hbb3⟩
    by_cases ht2 : 6 < t
    · go_wp2_with fail
      go_ret
      exact ⟨rfl, hbb3⟩
    by_cases hft : f = t
    · have bft : (f == t) = true := by simpa using hft
      clear hft
      go_wp2_with fail
      go_ret
      exact ⟨rfl, hbb3⟩
    have bft : (f == t) = false := by simpa using hft
    have HFT : Hid (f ≠ t) := hft
    have HT12 : Hid (1 ≤ t ∧ t ≤ 6) := ⟨by omega, by omega⟩
    clear hft
    have HR3 : Hid (RdO w3 (.slice a n cap) os) := HR.out.on hbb3
    have hos6 := HGO.out.few
    go_wp2_with fail
    refine (get_any _ os f _ (by omega) (fun j hj => by have := HGO.out.pix j hj; omega) HGO.out.sort HR3).mono ?_
    intro e w4 hget
    obtain ⟨hb4, hget⟩ := get_own hget HGO.out.sort
    have hbb4 := hbb3.trans (hb4.mono hbb3.size)
    have N4 := hid_of2 (N3.out.on hb4)
    have N4w := N3.out.lt
    have hw34 := hb4.size
    clear hb4 N3 HR3 hbb3
    rcases hget with ⟨o, u, hfo, hmem, rfl, hru⟩ | ⟨hfo, rfl⟩
    case inr =>
      have hbx4 : Below w4.heap.size w4 (w4.alloc (.cells #[.int .i64 po0.id, .int .i64 po0.x, .int .i64 po0.y, .int .i64 po0.pw, .int .i64 po0.ph, .slice none 0 0, .int .i64 po0.cx, .int .i64 po0.cy, .int .i64 po0.cw, .int .i64 po0.ch, .bool po0.sh] 41)) := (Below.refl _ _).alloc (Nat.le_refl _) _
      have hbb5 := hbb4.trans (hbx4.mono hbb4.size)
      have HR5 : Hid (RdO _ (.slice a n cap) os) := HR.out.on hbb5
      have HDO := hid_of2 (do_cp_none os f t hfo)
      unfold poV objV
      go_wp2_with fail
      have hdo := do_any (.slice a n cap) os (cpQ f t) (.slice none 0 0) _ (pre_cp os f t HGO.out) HR5 (rdP_nil _)
      simp only [opV] at hdo
      refine hdo.mono ?_
      clear hdo
      rintro e w6 ⟨hb6, hd⟩
      rw [HDO.out] at hd
      rcases hd with ⟨v5, qs, he5, _⟩ | ⟨c5, he5, hc5, rfl⟩
      · cases he5
      obtain rfl := Sum.inr.inj he5
      have hbb6 := hbb5.trans (hb6.mono hbb5.size)
      rw [show errV 5 = Value.iface 50 (.int .i64 5) from rfl]
      go_wp2_with fail
      refine (number_some 5 _).mono ?_
      rintro e w7 ⟨rfl, rfl⟩
      go_wp2_with fail
      go_ret
      exact ⟨rfl, hbb6⟩
    have hoi : o.id = f := by simpa using List.find?_some hfo
    subst hoi
    have HDO := hid_of2 (do_cp_some os o.id t o hfo)
    have HCP := hid_of2 (cp_list os HGO.out o o.id t (fun h => HFT.out h.symm) HT12.out hfo)
    have hop80 := good_mem2 HGO.out o hmem
    obtain ⟨mu, HMU⟩ : ∃ mu, Hid (o.ps.length = mu) := ⟨_, (rfl : _ = _)⟩
    obtain ⟨au, cu, hu⟩ := own_any hru
    rw [HMU.out] at hu
    subst hu
    obtain ⟨ms, HMS⟩ : ∃ ms, Hid (setO os { o with id := t } = ms) := ⟨_, (rfl : _ = _)⟩
    rw [HMS.out] at HDO HCP
    have hbx4 : Below w4.heap.size w4 (w4.alloc (.cells #[.int .i64 o.id, .int .i64 o.x, .int .i64 o.y, .int .i64 o.pw, .int .i64 o.ph, .slice au mu cu, .int .i64 o.cx, .int .i64 o.cy, .int .i64 o.cw, .int .i64 o.ch, .bool o.sh] 41)) := (Below.refl _ _).alloc (Nat.le_refl _) _
    have E5 := hid_of2 (eleven_start w4 (.int .i64 o.id) (.int .i64 o.x) (.int .i64 o.y) (.int .i64 o.pw) (.int .i64 o.ph) (.slice au mu cu) (.int .i64 o.cx) (.int .i64 o.cy) (.int .i64 o.cw) (.int .i64 o.ch) (.bool o.sh) 41 w4.heap.size rfl)
    have hbb5 := hbb4.trans (hbx4.mono hbb4.size)
    have HOU5 : Hid (World.ownsRow _ (w3.heap.size + 1) 33 2 (.slice au mu cu) o.ps.length (pixCells o.ps)) := own_on2 hru hbx4
    have N5 := hid_of2 (N4.out.on hbx4)
    have HR5 : Hid (RdO _ (.slice a n cap) os) := HR.out.on hbb5
    have hsz : w.heap.size + 1 ≤ w3.heap.size := N4w
    clear hfo hmem hru hbx4 N4 hbb4 HMS
    unfold poV objV
    go_wp2_with fail
    have hdo := do_any (.slice a n cap) os (cpQ o.id t) (.slice none 0 0) _ (pre_cp os o.id t HGO.out) HR5 (rdP_nil _)
    simp only [opV] at hdo
    refine hdo.mono ?_
    clear hdo
    rintro e w6 ⟨hb6, hd⟩
    rw [HDO.out] at hd
    rcases hd with ⟨v5, qs, he5, rfl, ho5⟩ | ⟨c5, he5, _⟩
    case inr => cases he5
    have HQM : Hid (qs.map Prod.fst = ms) := (Sum.inl.inj he5).symm
    have hlm : qs.length = ms.length := by have := congrArg List.length HQM.out; simpa using this
    obtain ⟨km, HKM⟩ : ∃ k, Hid (ms.length = k) := ⟨_, (rfl : _ = _)⟩
    obtain ⟨a5, c5, hv5⟩ := own_any ho5.1
    rw [hlm, HKM.out] at hv5
    subst hv5
    have hw5s : w.heap.size + 1 ≤ (w4.alloc (.cells #[.int .i64 o.id, .int .i64 o.x, .int .i64 o.y, .int .i64 o.pw, .int .i64 o.ph, .slice au mu cu, .int .i64 o.cx, .int .i64 o.cy, .int .i64 o.cw, .int .i64 o.ch, .bool o.sh] 41)).heap.size := by have := E5.out.lt; simp; have := hw34; omega
    have HOM : Hid (OwnOb w6 (w.heap.size + 1) (.slice a5 km c5) qs) := ho5.mono hw5s
    have HM6 : Hid (RdO w6 (.slice a5 km c5) ms) := by unfold Hid; rw [← HQM.out]; exact ho5.rd
    have E6 := hid_of2 (E5.out.on hb6)
    have N6 := hid_of2 (N5.out.on hb6)
    have HOU6 := hid_of2 (own_on2 HOU5.out hb6)
    have hbb6 := hbb5.trans (hb6.mono hbb5.size)
    have HMF : Hid (FineO ms) := HCP.out.fine
    have hm6 := HMF.out.few
    clear he5 ho5 hlm hb6 E5 N5 HOU5 hbb5 HR5 hw5s
    go_wp2_with fail
    refine (get_any _ ms t _ (by omega) (fun j hj => by have := HMF.out.good.pix j hj; omega) HMF.out.sort HM6).mono ?_
    intro e w7 hget7
    obtain ⟨hb7, hget7⟩ := get_find hget7 HMF.out.sort
    rcases hget7 with ⟨o7, u7, hfo7, _, rfl, hru7⟩ | ⟨hfo7, _⟩
    case inr => rw [HCP.out.new] at hfo7; cases hfo7
    rw [HCP.out.new] at hfo7
    obtain rfl := Option.some.inj hfo7
    clear hfo7
    obtain ⟨au7, cu7, hu7, h77, h78, h79⟩ := hru7
    simp only at hu7
    have hru7 : RdP w7 u7 o.ps := ⟨au7, cu7, hu7, h77, h78, h79⟩
    rw [HMU.out] at hu7
    subst hu7
    clear h77 h78 h79
    have E7 := hid_of2 (E6.out.on hb7)
    have N7 := hid_of2 (N6.out.on hb7)
    have HOU7 := hid_of2 (own_on2 HOU6.out hb7)
    have HOM7 : Hid (OwnOb w7 (w.heap.size + 1) (.slice a5 km c5) qs) := HOM.out.on hb7
    have hbb7 := hbb6.trans (hb7.mono hbb6.size)
    clear hb7 E6 N6 HOU6 HOM HM6 hbb6
    have bt : (t == t) = true := by simp
    have hbx7 : Below w7.heap.size w7 (w7.alloc (.cells #[.int .i64 o.id, .int .i64 o.x, .int .i64 o.y, .int .i64 o.pw, .int .i64 o.ph, .slice au7 mu cu7, .int .i64 o.cx, .int .i64 o.cy, .int .i64 o.cw, .int .i64 o.ch, .bool o.sh] 41)) := (Below.refl _ _).alloc (Nat.le_refl _) _
    have E8 := E7.out.on hbx7
    have N8 := hid_of2 (N7.out.on hbx7)
    have HOU8 := hid_of2 (own_on2 HOU7.out hbx7)
    have HOM8 : Hid (OwnOb _ (w.heap.size + 1) (.slice a5 km c5) qs) := HOM7.out.on hbx7
    have HU8a := hid_of2 (hru7.on hbx7)
    have HU8b := hid_of2 (rdP_own HOU8.out)
    have hbb8 := hbb7.trans (hbx7.mono hbb7.size)
    have E8h := hid_of2 E8
    clear hru7 hbx7 E7 N7 HOU7 HOM7 hbb7
    obtain ⟨s0, s1, s2, s3, s4, s5, s6, s7, s8, s9, s10, sf0, sf1, sf2, sf3, sf4, sf5, sf6, sf7, sf8, sf9, sf10, slt⟩ := E8
    unfold poV objV
    simp only
    go_wp2_with fail
    have hso := sameOb_any o (.slice au7 mu cu7) (.slice au mu cu) _ (by omega) HU8a HU8b
    unfold poV objV at hso
    refine hso.mono ?_
    clear hso
    rintro e w9 ⟨rfl, hb9⟩
    have E9 := hid_of2 (E8h.out.on hb9)
    have N9 := hid_of2 (N8.out.on hb9)
    have HOU9 := hid_of2 (own_on2 HOU8.out hb9)
    have HOA9 : Hid (OwnOb w9 (w.heap.size + 1) (.slice a5 km c5) qs) := HOM8.out.on hb9
    have hbb9 := hbb8.trans (hb9.mono hbb8.size)
    have hnew : w.heap.size ≠ w4.heap.size := by omega
    have E10 := hid_of2 (E9.out.other (b' := w.heap.size) (j := 1) (u := .int .i64 t) (fun h => hnew h.symm))
    have N10 := N9.out.set1 (.int .i64 t)
    have N10h := hid_of2 N10
    have HOU10 : Hid ((w9.setCell ⟨w.heap.size, 1, none⟩ (.int .i64 t)).ownsRow (w3.heap.size + 1) 33 2 (.slice au mu cu) o.ps.length (pixCells o.ps)) := ownsRow_setCell_below HOU9.out (a := ⟨w.heap.size, 1, none⟩) (show w.heap.size < w3.heap.size + 1 by omega) _
    have HOA10 : Hid (OwnOb (w9.setCell ⟨w.heap.size, 1, none⟩ (.int .i64 t)) (w.heap.size + 1) (.slice a5 km c5) qs) := ⟨ownsRow_setCell_below HOA9.out.1 (a := ⟨w.heap.size, 1, none⟩) (show w.heap.size < w.heap.size + 1 by omega) _, fun z hz => ownsRow_setCell_below (HOA9.out.2 z hz) (a := ⟨w.heap.size, 1, none⟩) (show w.heap.size < w.heap.size + 1 by omega) _⟩
    have hbb10 : Below w.heap.size w (w9.setCell ⟨w.heap.size, 1, none⟩ (.int .i64 t)) := hbb9.setCell (show w.heap.size ≤ w.heap.size from Nat.le_refl _) _
    have HS10 : Hid (Shapes _) := HS.out.on h1 hbb10
    have h110 := Nat.lt_of_lt_of_le h1 hbb10.size
    have HU10 : Hid (RdP _ (.slice ap np cp) q.ps) := HU.out.on hbb10
    obtain ⟨m0, m1, m2, m3, m4, m5, m6, m7, m8, mf0, mf1, mf2, mf3, mf4, mf5, mf6, mf7, mf8, mlt⟩ := N9.out
    obtain ⟨r0, r1, r2, r3, r4, r5, r6, r7, r8, rf0, rf1, rf2, rf3, rf4, rf5, rf6, rf7, rf8, rlt⟩ := N10
    obtain ⟨c, HC⟩ : ∃ c, Hid (opC { q with id := t } = c) := ⟨_, (rfl : _ = _)⟩
    clear s0 s1 s2 s3 s4 s5 s6 s7 s8 s9 s10 sf0 sf1 sf2 sf3 sf4 sf5 sf6 sf7 sf8 sf9 sf10 slt hb9 E8h N8 HOU8 HOM8 hbb8 HU8a HU8b E9 N9 HOU9 HOA9 hbb9
    go_wp2_with fail
    have hck := opCheck_any { q with id := t } (.slice ap np cp) _ HS10 h110 HU10 (by simp only; omega) c HC
    simp only [opV] at hck
    refine hck.mono ?_
    clear hck
    rintro e w11 ⟨rfl, hb11⟩
    have E11 := hid_of2 (E10.out.on hb11)
    have N11 := hid_of2 (N10h.out.on hb11)
    have HOU11 := hid_of2 (own_on2 HOU10.out hb11)
    have HOA11 : Hid (OwnOb w11 (w.heap.size + 1) (.slice a5 km c5) qs) := HOA10.out.on hb11
    have hbb11 := hbb10.trans (hb11.mono hbb10.size)
    clear m0 m1 m2 m3 m4 m5 m6 m7 m8 mf0 mf1 mf2 mf3 mf4 mf5 mf6 mf7 mf8 mlt r0 r1 r2 r3 r4 r5 r6 r7 r8 rf0 rf1 rf2 rf3 rf4 rf5 rf6 rf7 rf8 rlt hb11 E10 N10h HOU10 HOA10 hbb10 HS10 h110 HU10
    cases c with
    | succ c =>
      rw [show errV (c + 1) = .iface 50 (.int .i64 ((c + 1 : Nat) : Int)) from rfl]
      go_wp2_with fail
      go_ret
      exact ⟨rfl, hbb11⟩
    | zero =>
      rw [show errV 0 = Value.nilIface from rfl]
      obtain ⟨m0, m1, m2, m3, m4, m5, m6, m7, m8, mf0, mf1, mf2, mf3, mf4, mf5, mf6, mf7, mf8, mlt⟩ := N11.out
      by_cases hk6 : q.kind = 6
      · have b6 : (q.kind == 6) = true := by simpa using hk6
        clear hk6
        go_wp2_with fail
        go_ret
        exact ⟨rfl, hbb11⟩
      have b6 : (q.kind == 6) = false := by simpa using hk6
      have HK6 : Hid (q.kind ≠ 6) := hk6
      clear hk6
      have HM11 : Hid (RdO w11 (.slice a5 km c5) ms) := by unfold Hid; rw [← HQM.out]; exact HOA11.out.rd
      have HU11 : Hid (RdP w11 (.slice ap np cp) q.ps) := HU.out.on hbb11
      have HPR : Hid (DoPre ms { q with id := t }) := do_pre ms { q with id := t } HMF.out.good HC.out hq80
      go_wp2_with fail
      have hdo := do_any (.slice a5 km c5) ms { q with id := t } (.slice ap np cp) w11 HPR HM11 HU11
      simp only [opV] at hdo
      refine hdo.mono ?_
      clear hdo
      rintro e w12 ⟨hb12, hd⟩
      obtain ⟨rs, HRS⟩ := do_some ms { q with id := t } HC.out (by simp only; have := HT12.out; omega) _ HCP.out.new
      rw [HRS] at hd
      rcases hd with ⟨v12, qs12, he12, rfl, ho12⟩ | ⟨_, he12, _⟩
      case inr => cases he12
      have HQ12 : Hid (qs12.map Prod.fst = rs) := (Sum.inl.inj he12).symm
      have HFR : Hid (FineO rs) := do_fine HMF.out HC.out HRS
      have HFD : Hid (rs.find? (fun z => decide (z.id = o.id)) = some o) := by
        unfold Hid
        rw [do_find ms { q with id := t } rs HRS o.id (fun h => HFT.out h.symm) (fun h => HK6.out h.1)]
        exact HCP.out.old
      obtain ⟨kr, HKR⟩ : ∃ k, Hid (rs.length = k) := ⟨_, (rfl : _ = _)⟩
      have hlr : qs12.length = rs.length := by have := congrArg List.length HQ12.out; simpa using this
      obtain ⟨a12, c12, hv12⟩ := own_any ho12.1
      rw [hlr, HKR.out] at hv12
      subst hv12
      have HM12 : Hid (RdO w12 (.slice a12 kr c12) rs) := by unfold Hid; rw [← HQ12.out]; exact ho12.rd
      have E12 := hid_of2 (E11.out.on hb12)
      have HOU12 := hid_of2 (own_on2 HOU11.out hb12)
      have hbb12 := hbb11.trans (hb12.mono hbb11.size)
      have hr6 := HFR.out.few
      clear m0 m1 m2 m3 m4 m5 m6 m7 m8 mf0 mf1 mf2 mf3 mf4 mf5 mf6 mf7 mf8 mlt hb12 E11 N11 HOU11 HOA11 hbb11 HM11 HU11 HPR he12 ho12 hlr HRS
      go_wp2_with fail
      refine (get_any _ rs o.id _ (by omega) (fun j hj => by have := HFR.out.good.pix j hj; omega) HFR.out.sort HM12).mono ?_
      intro e w13 hget13
      obtain ⟨hb13, hget13⟩ := get_find hget13 HFR.out.sort
      rcases hget13 with ⟨o13, u13, hfo13, _, rfl, hru13⟩ | ⟨hfo13, _⟩
      case inr => rw [HFD.out] at hfo13; cases hfo13
      rw [HFD.out] at hfo13
      obtain rfl := Option.some.inj hfo13
      clear hfo13
      obtain ⟨au13, cu13, hu13, h77, h78, h79⟩ := hru13
      have hru13 : RdP w13 u13 o.ps := ⟨au13, cu13, hu13, h77, h78, h79⟩
      rw [HMU.out] at hu13
      subst hu13
      clear h77 h78 h79
      have hbx13 : Below w13.heap.size w13 (w13.alloc (.cells #[.int .i64 o.id, .int .i64 o.x, .int .i64 o.y, .int .i64 o.pw, .int .i64 o.ph, .slice au13 mu cu13, .int .i64 o.cx, .int .i64 o.cy, .int .i64 o.cw, .int .i64 o.ch, .bool o.sh] 41)) := (Below.refl _ _).alloc (Nat.le_refl _) _
      have E13 := (E12.out.on hb13).on hbx13
      have HU13a := hid_of2 (hru13.on hbx13)
      have HU13b := hid_of2 (rdP_own (own_on2 (own_on2 HOU12.out hb13) hbx13))
      have hbb13a := hbb12.trans (hb13.mono hbb12.size)
      have hbb13 := hbb13a.trans (hbx13.mono hbb13a.size)
      clear hb13 hbx13 hru13 E12 HOU12 hbb12 hbb13a HM12
      obtain ⟨s0, s1, s2, s3, s4, s5, s6, s7, s8, s9, s10, sf0, sf1, sf2, sf3, sf4, sf5, sf6, sf7, sf8, sf9, sf10, slt⟩ := E13
      unfold poV objV
      go_wp2_with fail
      have hso := sameOb_any o (.slice au13 mu cu13) (.slice au mu cu) _ (by omega) HU13a HU13b
      unfold poV objV at hso
      refine hso.mono ?_
      clear hso
      rintro e w14 ⟨rfl, hb14⟩
      have hbb14 := hbb13.trans (hb14.mono hbb13.size)
      clear hb14
      go_wp2_with fail
      go_ret
      exact ⟨rfl, hbb14⟩
end Go.Proofs.YtkmolifgfbaboaaDoor
