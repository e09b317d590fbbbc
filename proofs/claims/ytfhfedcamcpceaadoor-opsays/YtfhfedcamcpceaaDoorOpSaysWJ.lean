/- Walk of the law OpSays. -- s1 -/
import Derived.Test.YtfhfedcamcpceaaDoorParMJ
import Derived.Test.YtfhfedcamcpceaaDoorOcAJ
import Derived.Test.YtfhfedcamcpceaaDoorOcRJ
import Derived.Test.YtfhfedcamcpceaaDoorOfAJ
import Derived.Test.YtfhfedcamcpceaaDoorSoQJ
import Derived.Test.YtfhfedcamcpceaaDoorSameJ
namespace Go.Proofs.YtfhfedcamcpceaaDoor
open Go.RowKit

theorem chunk_uni (q : Pq) : ∃ nv dv : ByteArray, (∀ w e w', ChkP q w e w' → e = .returned (.tuple #[.agg #[.string nv, .string dv], errV (opC q)]) ∧ Below w.heap.size w w') ∧
    (∀ w e w', RckP q w e w' → e = .returned (.tuple #[.string nv, .string dv, .int .i64 (opC q : Nat)]) ∧ Below w.heap.size w w') := by
  by_cases h : opC q = 0
  · obtain ⟨s, hs⟩ := opC_some h
    refine ⟨s.bytes, ⟨(opB q s.id s.nums s.pic).toArray⟩, ?_, ?_⟩
    · rintro w e w' ⟨hb, ⟨c, hc, hn, _⟩ | ⟨_, s', hs', rfl⟩⟩
      · exact absurd (hc.symm.trans h) hn
      · obtain rfl := Option.some.inj (hs.symm.trans hs')
        rw [h]
        exact ⟨rfl, hb⟩
    · rintro w e w' ⟨hb, ⟨c, hc, hn, _⟩ | ⟨_, s', hs', rfl⟩⟩
      · exact absurd (hc.symm.trans h) hn
      · obtain rfl := Option.some.inj (hs.symm.trans hs')
        rw [h]
        exact ⟨rfl, hb⟩
  · refine ⟨⟨#[]⟩, ⟨#[]⟩, ?_, ?_⟩
    · rintro w e w' ⟨hb, ⟨c, hc, hn, rfl⟩ | ⟨hz, _⟩⟩
      · rw [hc]; exact ⟨rfl, hb⟩
      · exact absurd hz h
    · rintro w e w' ⟨hb, ⟨c, hc, hn, rfl⟩ | ⟨hz, _⟩⟩
      · rw [hc]; exact ⟨rfl, hb⟩
      · exact absurd hz h
theorem finQ_len (q : Pq) (h : q.ps.length ≤ 64) : (finQ q).1.ps.length ≤ 64 := by
  unfold finQ
  split
  · exact h
  · simp [q00]
theorem parQ_len (nm dt : ByteArray) : (parQ nm dt).1.ps.length ≤ 64 := by
  unfold parQ
  split
  · simp [q00]
  · split
    · simp [q00]
    · split
      · split
        · exact finQ_len _ (parse_lenP _ _ _ _ _ rfl)
        · simp [q00]
      · exact finQ_len _ (by simp [readQ])

set_option maxHeartbeats 8000000 in
set_option maxRecDepth 100000 in
theorem ops_any (w : World) (HS : Hid (Shapes w)) (h1 : 3 < w.heap.size) : Calls Tryd.prog 7 #[] w fun e w' => e = .returned (.bool true) ∧ Below w.heap.size w w' := by
  have hc0 := chunkOp_any ⟨3, 2, -1, 3, 0, 0, 0, 0, []⟩ (.slice none 0 0) w HS h1 (rdP_nil _) (by simp)
  unfold opV at hc0
  go_enter Tryd.func7, Tryd.ntmps7
  go_wp2_with fail
  refine hc0.mono ?_
  clear hc0
  rintro e w1 ⟨hb1, he⟩
  have he : e = .returned (.tuple #[.agg #[.string ⟨#[77, 79, 86, 69]⟩, .string ⟨#[2, 127, 0, 131, 0]⟩], .nilIface]) := by
    rcases he with ⟨c, hc, hn, _⟩ | ⟨_, s, hs, rfl⟩
    · exact absurd (hc.symm.trans (show opC ⟨3, 2, -1, 3, 0, 0, 0, 0, []⟩ = 0 by decide)) hn
    · obtain rfl := Option.some.inj (hs.symm.trans (show kindAt 3 shps = some (shps.getD 2 shp0) from rfl))
      rfl
  subst he
  have hbx : Below w.heap.size w (w1.alloc (.cells #[.string ⟨#[77, 79, 86, 69]⟩, .string ⟨#[2, 127, 0, 131, 0]⟩] 30)) := hb1.alloc hb1.size _
  clear hb1
  go_wp2_with fail
  refine (same_ok 0 .nilIface rfl _).mono ?_
  rintro e wx ⟨rfl, rfl⟩
  go_wp2_with fail
  go_ret
  exact ⟨rfl, hbx⟩

set_option maxHeartbeats 16000000 in
set_option maxRecDepth 100000 in
theorem opSays_any (q : Pq) (u : Value) (nm dt : ByteArray) (w : World) (HS : Hid (Shapes w)) (h1 : 3 < w.heap.size) (HM : Hid (RefNames w)) (HU : Hid (RdP w u q.ps)) (hnm : nm.size ≤ 9223372036854775807) (hdt : dt.size ≤ 9223372036854775807) :
    Calls Tryd.prog 3 #[opV q u, .string nm, .string dt] w fun e w' => e = .returned (.bool true) ∧ Below w.heap.size w w' := by
  obtain ⟨ap, cp, hv, hl0, hcp, -⟩ := HU.out
  obtain ⟨np, HNP⟩ : ∃ n, Hid (q.ps.length = n) := ⟨_, (rfl : _ = _)⟩
  rw [HNP.out] at hv hl0
  subst hv
  unfold opV
  obtain ⟨X0, HX0⟩ : ∃ X0, Hid (w.alloc (.cells #[.int .i64 q.kind, .int .i64 q.id, .int .i64 q.a, .int .i64 q.b, .int .i64 q.c, .int .i64 q.d, .int .i64 q.pw, .int .i64 q.ph, .slice ap np cp] 26) = X0) := ⟨_, (rfl : _ = _)⟩
  have hbz : Below w.heap.size w X0 := by rw [← HX0.out]; exact (Below.refl _ _).alloc (Nat.le_refl _) _
  have N0 : Hid (Nine X0 w.heap.size (.int .i64 q.kind) (.int .i64 q.id) (.int .i64 q.a) (.int .i64 q.b) (.int .i64 q.c) (.int .i64 q.d) (.int .i64 q.pw) (.int .i64 q.ph) (.slice ap np cp)) := by rw [← HX0.out]; exact nine_start w _ _ _ _ _ _ _ _ _ 26 w.heap.size rfl
  have HS0 : Hid (Shapes X0) := HS.out.on h1 hbz
  have h1' := Nat.lt_of_lt_of_le h1 hbz.size
  go_enter Tryd.func3, Tryd.ntmps3
  go_wp2_with fail
  rw [HX0.out]
  refine (ops_any X0 HS0 h1').mono ?_
  rintro e w1 ⟨rfl, hb1⟩
  have hbb1 := hbz.trans (hb1.mono hbz.size)
  have N1 := hid_of3 (N0.out.on hb1)
  clear hbz hb1 N0 HS0 h1' HX0
  obtain ⟨m0, m1, m2, m3, m4, m5, m6, m7, m8, -, -, -, -, -, -, -, -, -, -⟩ := N1.out
  go_wp2_with fail
  clear m0 m1 m2 m3 m4 m5 m6 m7 m8
  by_cases hn : np ≤ 80
  case neg =>
    refine (light_any q.pw q.ph ap np cp _ (by omega) false (by unfold Hid; simp [hn])).mono ?_
    rintro e w2 ⟨rfl, hb2⟩
    go_wp2_with fail
    go_ret
    exact ⟨rfl, hbb1.trans (hb2.mono hbb1.size)⟩
  refine (light_any q.pw q.ph ap np cp _ (by omega) true (by unfold Hid; simp [hn])).mono ?_
  rintro e w2 ⟨rfl, hb2⟩
  have N2 := hid_of3 (N1.out.on hb2)
  have hbb2 := hbb1.trans (hb2.mono hbb1.size)
  clear hb2 N1 hbb1
  by_cases hn10 : (10 : Int) < (nm.size : Int)
  · go_wp2_with fail
    go_ret
    exact ⟨rfl, hbb2⟩
  by_cases hd5 : (500 : Int) < (dt.size : Int)
  · go_wp2_with fail
    go_ret
    exact ⟨rfl, hbb2⟩
  have hdt6 : dt.size ≤ 1000000 := by omega
  obtain ⟨nv, dv, hC1, hC2⟩ := chunk_uni q
  have HC1 := hid_of3 hC1
  have HC2 := hid_of3 hC2
  obtain ⟨c, HC⟩ : ∃ c, Hid (opC q = c) := ⟨_, (rfl : _ = _)⟩
  rw [HC.out] at HC1 HC2
  clear hC1 hC2
  have hps : q.ps.length ≤ 1000000000 := by rw [HNP.out]; omega
  have hc1 := chunkOp_any q (.slice ap np cp) w2 (HS.out.on h1 hbb2) (Nat.lt_of_lt_of_le h1 hbb2.size) (HU.out.on hbb2) hps
  unfold opV at hc1
  obtain ⟨m0, m1, m2, m3, m4, m5, m6, m7, m8, -, -, -, -, -, -, -, -, -, -⟩ := N2.out
  go_wp2_with fail
  clear m0 m1 m2 m3 m4 m5 m6 m7 m8
  refine hc1.mono ?_
  clear hc1
  intro e w3 he
  obtain ⟨rfl, hb3⟩ := HC1.out _ _ _ he
  clear he
  have hbx3 : Below w3.heap.size w3 (w3.alloc (.cells #[.string nv, .string dv] 30)) := (Below.refl _ _).alloc (Nat.le_refl _) _
  have T3 := hid_of3 (two_startB w3 (.string nv) (.string dv) 30 w3.heap.size rfl)
  have N3 := hid_of3 ((N2.out.on hb3).on hbx3)
  have hbb3 := (hbb2.trans (hb3.mono hbb2.size)).trans (hbx3.mono (hbb2.trans (hb3.mono hbb2.size)).size)
  clear hb3 hbx3 N2 hbb2
  have hc2 := refChunk_any q (.slice ap np cp) _ (HM.out.on hbb3) (HU.out.on hbb3) hps
  unfold opV at hc2
  obtain ⟨m0, m1, m2, m3, m4, m5, m6, m7, m8, -, -, -, -, -, -, -, -, -, -⟩ := N3.out
  go_wp2_with fail
  clear m0 m1 m2 m3 m4 m5 m6 m7 m8
  refine hc2.mono ?_
  clear hc2
  obtain ⟨cb, HCB⟩ : ∃ b, Hid (w3.heap.size = b) := ⟨_, (rfl : _ = _)⟩
  rw [HCB.out] at T3
  rw [HCB.out]
  intro e w4 he
  obtain ⟨rfl, hb4⟩ := HC2.out _ _ _ he
  clear he
  have T4 := hid_of3 (T3.out.on hb4)
  have N4 := hid_of3 (N3.out.on hb4)
  have hbb4 := hbb3.trans (hb4.mono hbb3.size)
  clear hb4 T3 N3 hbb3 HCB
  obtain ⟨r, HRR⟩ : ∃ r, Hid (parQ nm dt = r) := ⟨_, (rfl : _ = _)⟩
  have hp1 := fun X (h : Shapes X) hl => parseOp_any nm dt X h hl hdt6
  have hp2 := fun X (h : RefNames X) => refOpOf_any nm dt X h hdt6
  have hyl : r.1.ps.length ≤ 64 := by rw [← HRR.out]; exact parQ_len nm dt
  rw [HRR.out] at hp1 hp2
  unfold ParP at hp1
  unfold ROfP at hp2
  obtain ⟨y, rc⟩ := r
  simp only at hp1 hp2 hyl
  have HP2 := hid_of3 hp2
  clear hp2 HRR
  go_wp2_with fail
  refine (hp1 w4 (HS.out.on h1 hbb4) (Nat.lt_of_lt_of_le h1 hbb4.size)).mono ?_
  clear hp1
  obtain ⟨nx, HNX⟩ : ∃ n, Hid (y.ps.length = n) := ⟨_, (rfl : _ = _)⟩
  rintro e w5 ⟨u5, rfl, hr5, hb5⟩
  have HR5 := hid_of3 hr5
  obtain ⟨ax, cx, hu5, -, -, -⟩ := hr5
  rw [HNX.out] at hu5
  subst hu5
  unfold opV
  have hbx5 : Below w5.heap.size w5 (w5.alloc (.cells #[.int .i64 y.kind, .int .i64 y.id, .int .i64 y.a, .int .i64 y.b, .int .i64 y.c, .int .i64 y.d, .int .i64 y.pw, .int .i64 y.ph, .slice ax nx cx] 26)) := (Below.refl _ _).alloc (Nat.le_refl _) _
  have X5 := hid_of3 (nine_start w5 (.int .i64 y.kind) (.int .i64 y.id) (.int .i64 y.a) (.int .i64 y.b) (.int .i64 y.c) (.int .i64 y.d) (.int .i64 y.pw) (.int .i64 y.ph) (.slice ax nx cx) 26 w5.heap.size rfl)
  have T5 := hid_of3 ((T4.out.on hb5).on hbx5)
  have N5 := hid_of3 ((N4.out.on hb5).on hbx5)
  have HRX5 := hid_of3 (HR5.out.on hbx5)
  have hbb5 := (hbb4.trans (hb5.mono hbb4.size)).trans (hbx5.mono (hbb4.trans (hb5.mono hbb4.size)).size)
  obtain ⟨xb, HXB⟩ : ∃ b, Hid (w5.heap.size = b) := ⟨_, (rfl : _ = _)⟩
  clear hb5 hbx5 T4 N4 hbb4 HR5
  go_wp2_with fail
  rw [HXB.out] at X5
  rw [HXB.out]
  clear HXB
  refine (HP2.out _ (HM.out.on hbb5)).mono ?_
  rintro e w6 ⟨u6, rfl, hr6, hb6⟩
  have HR6 := hid_of3 hr6
  obtain ⟨ay, cy, hu6, -, -, -⟩ := hr6
  rw [HNX.out] at hu6
  subst hu6
  unfold opV
  have hbx6 : Below w6.heap.size w6 (w6.alloc (.cells #[.int .i64 y.kind, .int .i64 y.id, .int .i64 y.a, .int .i64 y.b, .int .i64 y.c, .int .i64 y.d, .int .i64 y.pw, .int .i64 y.ph, .slice ay nx cy] 26)) := (Below.refl _ _).alloc (Nat.le_refl _) _
  have Y6 := hid_of3 (nine_start w6 (.int .i64 y.kind) (.int .i64 y.id) (.int .i64 y.a) (.int .i64 y.b) (.int .i64 y.c) (.int .i64 y.d) (.int .i64 y.pw) (.int .i64 y.ph) (.slice ay nx cy) 26 w6.heap.size rfl)
  have X6 := hid_of3 ((X5.out.on hb6).on hbx6)
  have T6 := hid_of3 ((T5.out.on hb6).on hbx6)
  have N6 := hid_of3 ((N5.out.on hb6).on hbx6)
  have HRX6 := hid_of3 ((HRX5.out.on hb6).on hbx6)
  have HRY6 := hid_of3 (HR6.out.on hbx6)
  have hbb6 := (hbb5.trans (hb6.mono hbb5.size)).trans (hbx6.mono (hbb5.trans (hb6.mono hbb5.size)).size)
  obtain ⟨yb, HYB⟩ : ∃ b, Hid (w6.heap.size = b) := ⟨_, (rfl : _ = _)⟩
  obtain ⟨W, HW⟩ : ∃ W, Hid (w6.alloc (.cells #[.int .i64 y.kind, .int .i64 y.id, .int .i64 y.a, .int .i64 y.b, .int .i64 y.c, .int .i64 y.d, .int .i64 y.pw, .int .i64 y.ph, .slice ay nx cy] 26) = W) := ⟨_, (rfl : _ = _)⟩
  clear hb6 hbx6 X5 T5 N5 HRX5 HR6 hbb5
  go_wp2_with fail
  rw [HYB.out, HW.out] at Y6
  rw [HW.out] at X6 T6 N6 HRX6 HRY6 hbb6
  rw [HYB.out, HW.out]
  clear HYB HW
  have KEEP : Hid (∀ w', Below W.heap.size W w' → w'.cell? ⟨w.heap.size, 0, none⟩ = some (.int .i64 q.kind) ∧ w'.cell? ⟨w.heap.size, 1, none⟩ = some (.int .i64 q.id) ∧ w'.cell? ⟨w.heap.size, 2, none⟩ = some (.int .i64 q.a) ∧ w'.cell? ⟨w.heap.size, 3, none⟩ = some (.int .i64 q.b) ∧ w'.cell? ⟨w.heap.size, 4, none⟩ = some (.int .i64 q.c) ∧ w'.cell? ⟨w.heap.size, 5, none⟩ = some (.int .i64 q.d) ∧ w'.cell? ⟨w.heap.size, 6, none⟩ = some (.int .i64 q.pw) ∧ w'.cell? ⟨w.heap.size, 7, none⟩ = some (.int .i64 q.ph) ∧ w'.cell? ⟨w.heap.size, 8, none⟩ = some (.slice ap np cp) ∧ w'.cell? ⟨cb, 0, none⟩ = some (.string nv) ∧ w'.cell? ⟨cb, 1, none⟩ = some (.string dv) ∧ w'.cell? ⟨xb, 0, none⟩ = some (.int .i64 y.kind) ∧ w'.cell? ⟨xb, 1, none⟩ = some (.int .i64 y.id) ∧ w'.cell? ⟨xb, 2, none⟩ = some (.int .i64 y.a) ∧ w'.cell? ⟨xb, 3, none⟩ = some (.int .i64 y.b) ∧ w'.cell? ⟨xb, 4, none⟩ = some (.int .i64 y.c) ∧ w'.cell? ⟨xb, 5, none⟩ = some (.int .i64 y.d) ∧ w'.cell? ⟨xb, 6, none⟩ = some (.int .i64 y.pw) ∧ w'.cell? ⟨xb, 7, none⟩ = some (.int .i64 y.ph) ∧ w'.cell? ⟨xb, 8, none⟩ = some (.slice ax nx cx) ∧ w'.cell? ⟨yb, 0, none⟩ = some (.int .i64 y.kind) ∧ w'.cell? ⟨yb, 1, none⟩ = some (.int .i64 y.id) ∧ w'.cell? ⟨yb, 2, none⟩ = some (.int .i64 y.a) ∧ w'.cell? ⟨yb, 3, none⟩ = some (.int .i64 y.b) ∧ w'.cell? ⟨yb, 4, none⟩ = some (.int .i64 y.c) ∧ w'.cell? ⟨yb, 5, none⟩ = some (.int .i64 y.d) ∧ w'.cell? ⟨yb, 6, none⟩ = some (.int .i64 y.pw) ∧ w'.cell? ⟨yb, 7, none⟩ = some (.int .i64 y.ph) ∧ w'.cell? ⟨yb, 8, none⟩ = some (.slice ay nx cy)) := by
    intro w' h
    obtain ⟨a0, a1, a2, a3, a4, a5, a6, a7, a8, -, -, -, -, -, -, -, -, -, -⟩ := N6.out.on h
    obtain ⟨t0, t1, -, -, -⟩ := T6.out.on h
    obtain ⟨x0, x1, x2, x3, x4, x5, x6, x7, x8, -, -, -, -, -, -, -, -, -, -⟩ := X6.out.on h
    obtain ⟨y0, y1, y2, y3, y4, y5, y6, y7, y8, -, -, -, -, -, -, -, -, -, -⟩ := Y6.out.on h
    exact ⟨a0, a1, a2, a3, a4, a5, a6, a7, a8, t0, t1, x0, x1, x2, x3, x4, x5, x6, x7, x8, y0, y1, y2, y3, y4, y5, y6, y7, y8⟩
  have hck := fun X hb => opCheck_any q (.slice ap np cp) X (HS.out.on h1 hb) (Nat.lt_of_lt_of_le h1 hb.size) (HU.out.on hb) hps c HC
  have hof := fun X (hb : Below w.heap.size w X) => opf_any q (.slice ap np cp) X hps (HU.out.on hb)
  unfold OpfP at hof
  rw [rf_eq, HC.out] at hof
  unfold opV at hck hof
  have HCK := hid_of3 hck
  have HOF := hid_of3 hof
  have hso := fun X (h0 : RdP X (.slice ax nx cx) y.ps) (h1 : RdP X (.slice ay nx cy) y.ps) => sameOp_any y (.slice ax nx cx) (.slice ay nx cy) X (by omega) h0 h1
  unfold opV at hso
  have HSO := hid_of3 hso
  clear hck hof hso X6 T6 N6 Y6
  refine wp_region_held_drew (S := (fun w' => w'.cell? ⟨w.heap.size, 0, none⟩ = some (.int .i64 q.kind) ∧ w'.cell? ⟨w.heap.size, 1, none⟩ = some (.int .i64 q.id) ∧ w'.cell? ⟨w.heap.size, 2, none⟩ = some (.int .i64 q.a) ∧ w'.cell? ⟨w.heap.size, 3, none⟩ = some (.int .i64 q.b) ∧ w'.cell? ⟨w.heap.size, 4, none⟩ = some (.int .i64 q.c) ∧ w'.cell? ⟨w.heap.size, 5, none⟩ = some (.int .i64 q.d) ∧ w'.cell? ⟨w.heap.size, 6, none⟩ = some (.int .i64 q.pw) ∧ w'.cell? ⟨w.heap.size, 7, none⟩ = some (.int .i64 q.ph) ∧ w'.cell? ⟨w.heap.size, 8, none⟩ = some (.slice ap np cp) ∧ w'.cell? ⟨cb, 0, none⟩ = some (.string nv) ∧ w'.cell? ⟨cb, 1, none⟩ = some (.string dv) ∧ w'.cell? ⟨xb, 0, none⟩ = some (.int .i64 y.kind) ∧ w'.cell? ⟨xb, 1, none⟩ = some (.int .i64 y.id) ∧ w'.cell? ⟨xb, 2, none⟩ = some (.int .i64 y.a) ∧ w'.cell? ⟨xb, 3, none⟩ = some (.int .i64 y.b) ∧ w'.cell? ⟨xb, 4, none⟩ = some (.int .i64 y.c) ∧ w'.cell? ⟨xb, 5, none⟩ = some (.int .i64 y.d) ∧ w'.cell? ⟨xb, 6, none⟩ = some (.int .i64 y.pw) ∧ w'.cell? ⟨xb, 7, none⟩ = some (.int .i64 y.ph) ∧ w'.cell? ⟨xb, 8, none⟩ = some (.slice ax nx cx) ∧ w'.cell? ⟨yb, 0, none⟩ = some (.int .i64 y.kind) ∧ w'.cell? ⟨yb, 1, none⟩ = some (.int .i64 y.id) ∧ w'.cell? ⟨yb, 2, none⟩ = some (.int .i64 y.a) ∧ w'.cell? ⟨yb, 3, none⟩ = some (.int .i64 y.b) ∧ w'.cell? ⟨yb, 4, none⟩ = some (.int .i64 y.c) ∧ w'.cell? ⟨yb, 5, none⟩ = some (.int .i64 y.d) ∧ w'.cell? ⟨yb, 6, none⟩ = some (.int .i64 y.pw) ∧ w'.cell? ⟨yb, 7, none⟩ = some (.int .i64 y.ph) ∧ w'.cell? ⟨yb, 8, none⟩ = some (.slice ay nx cy))) (by kernel_rfl) ?_ (fun hHeld => ?_)
  · exact KEEP.out _ (Below.refl _ _).drew
  refine wpAnyH_take (i := 0) (oi := ({ dst := some 61, op := Op.load 26 (Operand.tmp 3), type := 26, pos := "law.go:245", after := #[], guard := none } : Oper)) (v := ?_) rfl (by kernel_rfl) (by kernel_rfl) (by kernel_rfl) (fun _ _ _ h => h) (Or.inl ⟨by rfl, ?_⟩) (by assumption) ?_
  rotate_left
  · (intro w hSw; (try dsimp only at hSw); go_simp; try with_reducible rfl)
  try simp only [Act.put, List.setIfInBounds_toArray, List.set_cons_zero, List.set_cons_succ]
  refine wpAnyH_take (i := 2) (oi := ({ dst := some 63, op := Op.load 26 (Operand.tmp 3), type := 26, pos := "law.go:245", after := #[], guard := none } : Oper)) (v := ?_) rfl (by kernel_rfl) (by kernel_rfl) (by kernel_rfl) (fun _ _ _ h => h) (Or.inl ⟨by rfl, ?_⟩) (by assumption) ?_
  rotate_left
  · (intro w hSw; (try dsimp only at hSw); go_simp; try with_reducible rfl)
  try simp only [Act.put, List.setIfInBounds_toArray, List.set_cons_zero, List.set_cons_succ]
  refine wpAnyH_ready (rs := [1]) (by kernel_rfl) (by simp) ?_
  refine AllReadyH.cons (o := ({ dst := some 62, op := Op.call { callee := Callee.value (Operand.func 14), args := #[Operand.tmp 61], argTypes := #[26] }, type := 32, pos := "law.go:245", after := #[{ on := 0, ground := Ground.data }], guard := none } : Oper)) rfl (fun K_ hK => ?_) AllReadyH.nil
  go_simp
  refine (HCK.out _ (hbb6.drew)).mono ?_
  rintro e w7 ⟨rfl, hb7⟩
  have HB7 : Hid (Below W.heap.size W w7) := ⟨hb7.os, hb7.tape, hb7.output, hb7.size, hb7.block⟩
  have hbb7 := hbb6.trans (HB7.out.mono hbb6.size)
  clear hb7
  refine hK.out _ _ ?_ (fun hHeld => ?_)
  · exact KEEP.out _ HB7.out
  clear hK K_
  try simp only [Act.put, List.setIfInBounds_toArray, List.set_cons_zero, List.set_cons_succ]
  refine wpAnyH_ready (rs := [3]) (by kernel_rfl) (by simp) ?_
  refine AllReadyH.cons (o := ({ dst := some 64, op := Op.call { callee := Callee.value (Operand.func 15), args := #[Operand.tmp 63], argTypes := #[26] }, type := 3, pos := "law.go:245", after := #[{ on := 2, ground := Ground.data }, { on := 1, ground := Ground.chain }], guard := none } : Oper)) rfl (fun K_ hK => ?_) AllReadyH.nil
  go_simp
  refine (HOF.out _ hbb7).mono ?_
  rintro e w8 ⟨rfl, hb8⟩
  have HB8 := hid_of3 (HB7.out.trans (hb8.mono HB7.out.size))
  clear hb8 hbb7
  refine hK.out _ _ ?_ (fun hHeld => ?_)
  · exact KEEP.out _ HB8.out
  clear hK K_
  try simp only [Act.put, List.setIfInBounds_toArray, List.set_cons_zero, List.set_cons_succ]
  refine wpAnyH_ready (rs := [4]) (by kernel_rfl) (by simp) ?_
  refine AllReadyH.cons (o := ({ dst := some 65, op := Op.call { callee := Callee.value (Operand.func 13), args := #[Operand.tmp 62, Operand.tmp 64], argTypes := #[32, 3] }, type := 4, pos := "law.go:245", after := #[{ on := 1, ground := Ground.data }, { on := 3, ground := Ground.data }, { on := 3, ground := Ground.chain }], guard := none } : Oper)) rfl (fun K_ hK => ?_) AllReadyH.nil
  go_simp
  refine (same_ok c (errV c) rfl _).mono ?_
  rintro e w9 ⟨rfl, rfl⟩
  refine hK.out _ _ ?_ (fun hHeld => ?_)
  · exact KEEP.out _ HB8.out
  clear hK K_
  try simp only [Act.put, List.setIfInBounds_toArray, List.set_cons_zero, List.set_cons_succ]
  refine wpAnyH_take (i := 5) (oi := ({ dst := some 66, op := Op.move (Operand.tmp 65), type := 4, pos := "law.go:245", after := #[{ on := 4, ground := Ground.data }, { on := 4, ground := Ground.chain }], guard := none } : Oper)) (v := ?_) rfl (by kernel_rfl) (by kernel_rfl) (by kernel_rfl) (fun _ _ _ h => h) (Or.inl ⟨by rfl, ?_⟩) (by assumption) ?_
  rotate_left
  · (intro w hSw; (try dsimp only at hSw); go_simp; try with_reducible rfl)
  try simp only [Act.put, List.setIfInBounds_toArray, List.set_cons_zero, List.set_cons_succ]
  refine wpAnyH_take (i := 6) (oi := ({ dst := some 67, op := Op.fieldAddr 30 (Operand.tmp 8) 0, type := 0, pos := "law.go:245", after := #[{ on := 5, ground := Ground.guard }], guard := some (5, true) } : Oper)) (v := ?_) rfl (by kernel_rfl) (by kernel_rfl) (by kernel_rfl) (fun _ _ _ h => h) (Or.inl ⟨by rfl, ?_⟩) (by assumption) ?_
  rotate_left
  · (intro w hSw; (try dsimp only at hSw); go_simp; try with_reducible rfl)
  try simp only [Act.put, List.setIfInBounds_toArray, List.set_cons_zero, List.set_cons_succ]
  refine wpAnyH_take (i := 7) (oi := ({ dst := some 68, op := Op.load 9 (Operand.tmp 67), type := 9, pos := "law.go:245", after := #[{ on := 6, ground := Ground.data }, { on := 5, ground := Ground.guard }], guard := some (5, true) } : Oper)) (v := ?_) rfl (by kernel_rfl) (by kernel_rfl) (by kernel_rfl) (fun _ _ _ h => h) (Or.inl ⟨by rfl, ?_⟩) (by assumption) ?_
  rotate_left
  · (intro w hSw; (try dsimp only at hSw); go_simp; try with_reducible rfl)
  try simp only [Act.put, List.setIfInBounds_toArray, List.set_cons_zero, List.set_cons_succ]
  refine wpAnyH_take (i := 8) (oi := ({ dst := some 69, op := Op.move (Operand.tmp 10), type := 9, pos := "law.go:245", after := #[{ on := 5, ground := Ground.guard }], guard := some (5, true) } : Oper)) (v := ?_) rfl (by kernel_rfl) (by kernel_rfl) (by kernel_rfl) (fun _ _ _ h => h) (Or.inl ⟨by rfl, ?_⟩) (by assumption) ?_
  rotate_left
  · (intro w hSw; (try dsimp only at hSw); go_simp; try with_reducible rfl)
  try simp only [Act.put, List.setIfInBounds_toArray, List.set_cons_zero, List.set_cons_succ]
  refine wpAnyH_take (i := 9) (oi := ({ dst := some 70, op := Op.binOp BinOp.eql 9 (Operand.tmp 68) (Operand.tmp 69) 9, type := 4, pos := "law.go:245", after := #[{ on := 7, ground := Ground.data }, { on := 8, ground := Ground.data }, { on := 5, ground := Ground.guard }], guard := some (5, true) } : Oper)) (v := ?_) rfl (by kernel_rfl) (by kernel_rfl) (by kernel_rfl) (fun _ _ _ h => h) (Or.inl ⟨by rfl, ?_⟩) (by assumption) ?_
  rotate_left
  · (intro w hSw; (try dsimp only at hSw); go_simp; try with_reducible rfl)
  try simp only [Act.put, List.setIfInBounds_toArray, List.set_cons_zero, List.set_cons_succ]
  refine wpAnyH_take (i := 10) (oi := ({ dst := some 71, op := Op.pick (Operand.tmp 66) (Operand.tmp 70) (Operand.const (Value.bool false)), type := 4, pos := "law.go:245", after := #[{ on := 5, ground := Ground.data }, { on := 9, ground := Ground.data }], guard := none } : Oper)) (v := ?_) rfl (by kernel_rfl) (by kernel_rfl) (by kernel_rfl) (fun _ _ _ h => h) (Or.inl ⟨by rfl, ?_⟩) (by assumption) ?_
  rotate_left
  · (intro w hSw; (try dsimp only at hSw); go_simp; try with_reducible rfl)
  try simp only [Act.put, List.setIfInBounds_toArray, List.set_cons_zero, List.set_cons_succ]
  refine wpAnyH_take (i := 11) (oi := ({ dst := some 72, op := Op.move (Operand.tmp 71), type := 4, pos := "law.go:245", after := #[{ on := 10, ground := Ground.data }, { on := 5, ground := Ground.chain }], guard := none } : Oper)) (v := ?_) rfl (by kernel_rfl) (by kernel_rfl) (by kernel_rfl) (fun _ _ _ h => h) (Or.inl ⟨by rfl, ?_⟩) (by assumption) ?_
  rotate_left
  · (intro w hSw; (try dsimp only at hSw); go_simp; try with_reducible rfl)
  try simp only [Act.put, List.setIfInBounds_toArray, List.set_cons_zero, List.set_cons_succ]
  refine wpAnyH_take (i := 12) (oi := ({ dst := some 73, op := Op.fieldAddr 30 (Operand.tmp 8) 1, type := 0, pos := "law.go:245", after := #[{ on := 11, ground := Ground.guard }], guard := some (11, true) } : Oper)) (v := ?_) rfl (by kernel_rfl) (by kernel_rfl) (by kernel_rfl) (fun _ _ _ h => h) (Or.inl ⟨by rfl, ?_⟩) (by assumption) ?_
  rotate_left
  · (intro w hSw; (try dsimp only at hSw); go_simp; try with_reducible rfl)
  try simp only [Act.put, List.setIfInBounds_toArray, List.set_cons_zero, List.set_cons_succ]
  refine wpAnyH_take (i := 13) (oi := ({ dst := some 74, op := Op.load 9 (Operand.tmp 73), type := 9, pos := "law.go:245", after := #[{ on := 12, ground := Ground.data }, { on := 11, ground := Ground.guard }], guard := some (11, true) } : Oper)) (v := ?_) rfl (by kernel_rfl) (by kernel_rfl) (by kernel_rfl) (fun _ _ _ h => h) (Or.inl ⟨by rfl, ?_⟩) (by assumption) ?_
  rotate_left
  · (intro w hSw; (try dsimp only at hSw); go_simp; try with_reducible rfl)
  try simp only [Act.put, List.setIfInBounds_toArray, List.set_cons_zero, List.set_cons_succ]
  refine wpAnyH_take (i := 14) (oi := ({ dst := some 75, op := Op.move (Operand.tmp 11), type := 9, pos := "law.go:245", after := #[{ on := 11, ground := Ground.guard }], guard := some (11, true) } : Oper)) (v := ?_) rfl (by kernel_rfl) (by kernel_rfl) (by kernel_rfl) (fun _ _ _ h => h) (Or.inl ⟨by rfl, ?_⟩) (by assumption) ?_
  rotate_left
  · (intro w hSw; (try dsimp only at hSw); go_simp; try with_reducible rfl)
  try simp only [Act.put, List.setIfInBounds_toArray, List.set_cons_zero, List.set_cons_succ]
  refine wpAnyH_take (i := 15) (oi := ({ dst := some 76, op := Op.binOp BinOp.eql 9 (Operand.tmp 74) (Operand.tmp 75) 9, type := 4, pos := "law.go:245", after := #[{ on := 13, ground := Ground.data }, { on := 14, ground := Ground.data }, { on := 11, ground := Ground.guard }], guard := some (11, true) } : Oper)) (v := ?_) rfl (by kernel_rfl) (by kernel_rfl) (by kernel_rfl) (fun _ _ _ h => h) (Or.inl ⟨by rfl, ?_⟩) (by assumption) ?_
  rotate_left
  · (intro w hSw; (try dsimp only at hSw); go_simp; try with_reducible rfl)
  try simp only [Act.put, List.setIfInBounds_toArray, List.set_cons_zero, List.set_cons_succ]
  refine wpAnyH_take (i := 16) (oi := ({ dst := some 77, op := Op.pick (Operand.tmp 72) (Operand.tmp 76) (Operand.const (Value.bool false)), type := 4, pos := "law.go:245", after := #[{ on := 11, ground := Ground.data }, { on := 15, ground := Ground.data }], guard := none } : Oper)) (v := ?_) rfl (by kernel_rfl) (by kernel_rfl) (by kernel_rfl) (fun _ _ _ h => h) (Or.inl ⟨by rfl, ?_⟩) (by assumption) ?_
  rotate_left
  · (intro w hSw; (try dsimp only at hSw); go_simp; try with_reducible rfl)
  try simp only [Act.put, List.setIfInBounds_toArray, List.set_cons_zero, List.set_cons_succ]
  refine wpAnyH_take (i := 17) (oi := ({ dst := some 78, op := Op.move (Operand.tmp 77), type := 4, pos := "law.go:245", after := #[{ on := 16, ground := Ground.data }, { on := 11, ground := Ground.chain }], guard := none } : Oper)) (v := ?_) rfl (by kernel_rfl) (by kernel_rfl) (by kernel_rfl) (fun _ _ _ h => h) (Or.inl ⟨by rfl, ?_⟩) (by assumption) ?_
  rotate_left
  · (intro w hSw; (try dsimp only at hSw); go_simp; try with_reducible rfl)
  try simp only [Act.put, List.setIfInBounds_toArray, List.set_cons_zero, List.set_cons_succ]
  refine wpAnyH_take (i := 18) (oi := ({ dst := some 79, op := Op.move (Operand.tmp 9), type := 32, pos := "law.go:245", after := #[{ on := 17, ground := Ground.guard }], guard := some (17, true) } : Oper)) (v := ?_) rfl (by kernel_rfl) (by kernel_rfl) (by kernel_rfl) (fun _ _ _ h => h) (Or.inl ⟨by rfl, ?_⟩) (by assumption) ?_
  rotate_left
  · (intro w hSw; (try dsimp only at hSw); go_simp; try with_reducible rfl)
  try simp only [Act.put, List.setIfInBounds_toArray, List.set_cons_zero, List.set_cons_succ]
  refine wpAnyH_take (i := 19) (oi := ({ dst := some 80, op := Op.move (Operand.tmp 12), type := 3, pos := "law.go:245", after := #[{ on := 17, ground := Ground.guard }], guard := some (17, true) } : Oper)) (v := ?_) rfl (by kernel_rfl) (by kernel_rfl) (by kernel_rfl) (fun _ _ _ h => h) (Or.inl ⟨by rfl, ?_⟩) (by assumption) ?_
  rotate_left
  · (intro w hSw; (try dsimp only at hSw); go_simp; try with_reducible rfl)
  try simp only [Act.put, List.setIfInBounds_toArray, List.set_cons_zero, List.set_cons_succ]
  refine wpAnyH_ready (rs := [20]) (by kernel_rfl) (by simp) ?_
  refine AllReadyH.cons (o := ({ dst := some 81, op := Op.call { callee := Callee.value (Operand.func 13), args := #[Operand.tmp 79, Operand.tmp 80], argTypes := #[32, 3] }, type := 4, pos := "law.go:245", after := #[{ on := 18, ground := Ground.data }, { on := 19, ground := Ground.data }, { on := 17, ground := Ground.chain }, { on := 17, ground := Ground.guard }], guard := some (17, true) } : Oper)) rfl (fun K_ hK => ?_) AllReadyH.nil
  go_simp
  refine (same_ok c (errV c) rfl _).mono ?_
  rintro e w9 ⟨rfl, rfl⟩
  refine hK.out _ _ ?_ (fun hHeld => ?_)
  · exact KEEP.out _ HB8.out
  clear hK K_
  try simp only [Act.put, List.setIfInBounds_toArray, List.set_cons_zero, List.set_cons_succ]
  refine wpAnyH_take (i := 21) (oi := ({ dst := some 82, op := Op.pick (Operand.tmp 78) (Operand.tmp 81) (Operand.const (Value.bool false)), type := 4, pos := "law.go:245", after := #[{ on := 17, ground := Ground.data }, { on := 20, ground := Ground.data }], guard := none } : Oper)) (v := ?_) rfl (by kernel_rfl) (by kernel_rfl) (by kernel_rfl) (fun _ _ _ h => h) (Or.inl ⟨by rfl, ?_⟩) (by assumption) ?_
  rotate_left
  · (intro w hSw; (try dsimp only at hSw); go_simp; try with_reducible rfl)
  try simp only [Act.put, List.setIfInBounds_toArray, List.set_cons_zero, List.set_cons_succ]
  refine wpAnyH_take (i := 22) (oi := ({ dst := some 83, op := Op.move (Operand.tmp 82), type := 4, pos := "law.go:245", after := #[{ on := 21, ground := Ground.data }, { on := 20, ground := Ground.chain }], guard := none } : Oper)) (v := ?_) rfl (by kernel_rfl) (by kernel_rfl) (by kernel_rfl) (fun _ _ _ h => h) (Or.inl ⟨by rfl, ?_⟩) (by assumption) ?_
  rotate_left
  · (intro w hSw; (try dsimp only at hSw); go_simp; try with_reducible rfl)
  try simp only [Act.put, List.setIfInBounds_toArray, List.set_cons_zero, List.set_cons_succ]
  refine wpAnyH_take (i := 23) (oi := ({ dst := some 84, op := Op.load 26 (Operand.tmp 13), type := 26, pos := "law.go:245", after := #[{ on := 22, ground := Ground.guard }], guard := some (22, true) } : Oper)) (v := ?_) rfl (by kernel_rfl) (by kernel_rfl) (by kernel_rfl) (fun _ _ _ h => h) (Or.inl ⟨by rfl, ?_⟩) (by assumption) ?_
  rotate_left
  · (intro w hSw; (try dsimp only at hSw); go_simp; try with_reducible rfl)
  try simp only [Act.put, List.setIfInBounds_toArray, List.set_cons_zero, List.set_cons_succ]
  refine wpAnyH_take (i := 24) (oi := ({ dst := some 85, op := Op.load 26 (Operand.tmp 15), type := 26, pos := "law.go:245", after := #[{ on := 22, ground := Ground.guard }], guard := some (22, true) } : Oper)) (v := ?_) rfl (by kernel_rfl) (by kernel_rfl) (by kernel_rfl) (fun _ _ _ h => h) (Or.inl ⟨by rfl, ?_⟩) (by assumption) ?_
  rotate_left
  · (intro w hSw; (try dsimp only at hSw); go_simp; try with_reducible rfl)
  try simp only [Act.put, List.setIfInBounds_toArray, List.set_cons_zero, List.set_cons_succ]
  refine wpAnyH_ready (rs := [25]) (by kernel_rfl) (by simp) ?_
  refine AllReadyH.cons (o := ({ dst := some 86, op := Op.call { callee := Callee.value (Operand.func 16), args := #[Operand.tmp 84, Operand.tmp 85], argTypes := #[26, 26] }, type := 4, pos := "law.go:245", after := #[{ on := 23, ground := Ground.data }, { on := 24, ground := Ground.data }, { on := 22, ground := Ground.chain }, { on := 22, ground := Ground.guard }], guard := some (22, true) } : Oper)) rfl (fun K_ hK => ?_) AllReadyH.nil
  go_simp
  refine (HSO.out _ (HRX6.out.on HB8.out) (HRY6.out.on HB8.out)).mono ?_
  rintro e w10 ⟨rfl, hb10⟩
  have HB10 := hid_of3 (HB8.out.trans (hb10.mono HB8.out.size))
  clear hb10
  refine hK.out _ _ ?_ (fun hHeld => ?_)
  · exact KEEP.out _ HB10.out
  clear hK K_
  try simp only [Act.put, List.setIfInBounds_toArray, List.set_cons_zero, List.set_cons_succ]
  refine wpAnyH_take (i := 26) (oi := ({ dst := some 87, op := Op.pick (Operand.tmp 83) (Operand.tmp 86) (Operand.const (Value.bool false)), type := 4, pos := "law.go:245", after := #[{ on := 22, ground := Ground.data }, { on := 25, ground := Ground.data }], guard := none } : Oper)) (v := ?_) rfl (by kernel_rfl) (by kernel_rfl) (by kernel_rfl) (fun _ _ _ h => h) (Or.inl ⟨by rfl, ?_⟩) (by assumption) ?_
  rotate_left
  · (intro w hSw; (try dsimp only at hSw); go_simp; try with_reducible rfl)
  try simp only [Act.put, List.setIfInBounds_toArray, List.set_cons_zero, List.set_cons_succ]
  refine wpAnyH_take (i := 27) (oi := ({ dst := some 88, op := Op.move (Operand.tmp 87), type := 4, pos := "law.go:245", after := #[{ on := 26, ground := Ground.data }, { on := 25, ground := Ground.chain }], guard := none } : Oper)) (v := ?_) rfl (by kernel_rfl) (by kernel_rfl) (by kernel_rfl) (fun _ _ _ h => h) (Or.inl ⟨by rfl, ?_⟩) (by assumption) ?_
  rotate_left
  · (intro w hSw; (try dsimp only at hSw); go_simp; try with_reducible rfl)
  try simp only [Act.put, List.setIfInBounds_toArray, List.set_cons_zero, List.set_cons_succ]
  refine wpAnyH_take (i := 28) (oi := ({ dst := some 89, op := Op.move (Operand.tmp 14), type := 32, pos := "law.go:245", after := #[{ on := 27, ground := Ground.guard }], guard := some (27, true) } : Oper)) (v := ?_) rfl (by kernel_rfl) (by kernel_rfl) (by kernel_rfl) (fun _ _ _ h => h) (Or.inl ⟨by rfl, ?_⟩) (by assumption) ?_
  rotate_left
  · (intro w hSw; (try dsimp only at hSw); go_simp; try with_reducible rfl)
  try simp only [Act.put, List.setIfInBounds_toArray, List.set_cons_zero, List.set_cons_succ]
  refine wpAnyH_take (i := 29) (oi := ({ dst := some 90, op := Op.move (Operand.tmp 16), type := 3, pos := "law.go:245", after := #[{ on := 27, ground := Ground.guard }], guard := some (27, true) } : Oper)) (v := ?_) rfl (by kernel_rfl) (by kernel_rfl) (by kernel_rfl) (fun _ _ _ h => h) (Or.inl ⟨by rfl, ?_⟩) (by assumption) ?_
  rotate_left
  · (intro w hSw; (try dsimp only at hSw); go_simp; try with_reducible rfl)
  try simp only [Act.put, List.setIfInBounds_toArray, List.set_cons_zero, List.set_cons_succ]
  refine wpAnyH_ready (rs := [30]) (by kernel_rfl) (by simp) ?_
  refine AllReadyH.cons (o := ({ dst := some 91, op := Op.call { callee := Callee.value (Operand.func 13), args := #[Operand.tmp 89, Operand.tmp 90], argTypes := #[32, 3] }, type := 4, pos := "law.go:245", after := #[{ on := 28, ground := Ground.data }, { on := 29, ground := Ground.data }, { on := 27, ground := Ground.chain }, { on := 27, ground := Ground.guard }], guard := some (27, true) } : Oper)) rfl (fun K_ hK => ?_) AllReadyH.nil
  go_simp
  refine (same_ok rc (errV rc) rfl _).mono ?_
  rintro e w9 ⟨rfl, rfl⟩
  refine hK.out _ _ ?_ (fun hHeld => ?_)
  · exact KEEP.out _ HB10.out
  clear hK K_
  try simp only [Act.put, List.setIfInBounds_toArray, List.set_cons_zero, List.set_cons_succ]
  refine wpAnyH_take (i := 31) (oi := ({ dst := some 92, op := Op.pick (Operand.tmp 88) (Operand.tmp 91) (Operand.const (Value.bool false)), type := 4, pos := "law.go:245", after := #[{ on := 27, ground := Ground.data }, { on := 30, ground := Ground.data }], guard := none } : Oper)) (v := ?_) rfl (by kernel_rfl) (by kernel_rfl) (by kernel_rfl) (fun _ _ _ h => h) (Or.inl ⟨by rfl, ?_⟩) (by assumption) ?_
  rotate_left
  · (intro w hSw; (try dsimp only at hSw); go_simp; try with_reducible rfl)
  try simp only [Act.put, List.setIfInBounds_toArray, List.set_cons_zero, List.set_cons_succ]
  refine wpAnyH_take (i := 32) (oi := ({ dst := some 6, op := Op.assign (Operand.tmp 92), type := 4, pos := "law.go:245", after := #[{ on := 31, ground := Ground.data }, { on := 30, ground := Ground.chain }, { on := 0, ground := Ground.phase }, { on := 1, ground := Ground.phase }, { on := 2, ground := Ground.phase }, { on := 3, ground := Ground.phase }, { on := 4, ground := Ground.phase }, { on := 5, ground := Ground.phase }, { on := 6, ground := Ground.phase }, { on := 7, ground := Ground.phase }, { on := 8, ground := Ground.phase }, { on := 9, ground := Ground.phase }, { on := 10, ground := Ground.phase }, { on := 11, ground := Ground.phase }, { on := 12, ground := Ground.phase }, { on := 13, ground := Ground.phase }, { on := 14, ground := Ground.phase }, { on := 15, ground := Ground.phase }, { on := 16, ground := Ground.phase }, { on := 17, ground := Ground.phase }, { on := 18, ground := Ground.phase }, { on := 19, ground := Ground.phase }, { on := 20, ground := Ground.phase }, { on := 21, ground := Ground.phase }, { on := 22, ground := Ground.phase }, { on := 23, ground := Ground.phase }, { on := 24, ground := Ground.phase }, { on := 25, ground := Ground.phase }, { on := 26, ground := Ground.phase }, { on := 27, ground := Ground.phase }, { on := 28, ground := Ground.phase }, { on := 29, ground := Ground.phase }, { on := 30, ground := Ground.phase }, { on := 31, ground := Ground.phase }], guard := none } : Oper)) (v := ?_) rfl (by kernel_rfl) (by kernel_rfl) (by kernel_rfl) (fun _ _ _ h => h) (Or.inl ⟨by rfl, ?_⟩) (by assumption) ?_
  rotate_left
  · (intro w hSw; (try dsimp only at hSw); go_simp; try with_reducible rfl)
  try simp only [Act.put, List.setIfInBounds_toArray, List.set_cons_zero, List.set_cons_succ]
  refine wpAnyH_done (by kernel_rfl) ?_ _
  go_wp2_with fail
  go_ret
  exact ⟨rfl, hbb6.trans (HB10.out.mono hbb6.size)⟩
end Go.Proofs.YtfhfedcamcpceaaDoor
