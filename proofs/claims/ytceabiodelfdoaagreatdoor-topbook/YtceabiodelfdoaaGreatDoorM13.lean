/- Some of the walks, in one text. -/
import Derived.Test.YtceabiodelfdoaaGreatDoorM12
import Derived.Lib.IndexBytes
import Derived.Maps.AppendAt
/- Walk: op.Parse. -- s1 -/
namespace Go.Proofs.YtceabiodelfdoaaGreatDoor
open Go.RowKit

def q00 : Pq := ⟨0, 0, 0, 0, 0, 0, 0, 0, []⟩
/-- what a chunk is read as: an op, or the number of an error -/
def finQ (q : Pq) : Pq × Nat := if opC q = 0 then (q, 0) else (q00, opC q)
def parQ (nm dt : ByteArray) : Pq × Nat :=
  match nameAt nm shps with
  | none => (q00, 5)
  | some s =>
    if dt.size < sizeS s ∨ (sizeS s < dt.size ∧ s.pic = false) then (q00, 4)
    else if s.pic = true then
      (if (parseL (dt.data.toList.drop (sizeS s))).2.2.2 = 0 then
        finQ { readQ s.kind s.id s.nums (dt.data.toList.take (sizeS s)) with pw := ((parseL (dt.data.toList.drop (sizeS s))).1 : Int), ph := ((parseL (dt.data.toList.drop (sizeS s))).2.1 : Int), ps := (parseL (dt.data.toList.drop (sizeS s))).2.2.1 }
      else (q00, (parseL (dt.data.toList.drop (sizeS s))).2.2.2))
    else finQ (readQ s.kind s.id s.nums (dt.data.toList.take (sizeS s)))
def ParP (r : Pq × Nat) (w : World) (e : Ending) (w' : World) : Prop := ∃ u, e = .returned (.tuple #[opV r.1 u, errV r.2]) ∧ RdP w' u r.1.ps ∧ Below w.heap.size w w'
def PaOP (r : Pq × Nat) (w : World) (e : Ending) (w' : World) : Prop := ∃ u, e = .returned (.tuple #[opV r.1 u, errV r.2]) ∧ w'.ownsRow w.heap.size 52 2 u r.1.ps.length (pixCells r.1.ps) ∧ Below w.heap.size w w'
theorem parP_err {r : Pq × Nat} {c : Nat} {w w' : World} (h : Hid (r = (q00, c))) (hb : Below w.heap.size w w') (ev : Value) (he : errV c = ev) : PaOP r w (.returned (.tuple #[.agg #[.int .i64 0, .int .i64 0, .int .i64 0, .int .i64 0, .int .i64 0, .int .i64 0, .int .i64 0, .int .i64 0, .slice none 0 0], ev])) w' := by
  rw [h.out, ← he]
  exact ⟨_, rfl, World.ownsRow_nil _ _ _ _, hb⟩
theorem parP_ok {r : Pq × Nat} {q : Pq} {w w' : World} {u : Value} (h : Hid (r = (q, 0))) (hr : w'.ownsRow w.heap.size 52 2 u q.ps.length (pixCells q.ps)) (hb : Below w.heap.size w w') : PaOP r w (.returned (.tuple #[.agg #[.int .i64 q.kind, .int .i64 q.id, .int .i64 q.a, .int .i64 q.b, .int .i64 q.c, .int .i64 q.d, .int .i64 q.pw, .int .i64 q.ph, u], .nilIface])) w' := by
  rw [h.out]
  exact ⟨u, rfl, hr, hb⟩
/-- what holds on the road -/
structure Gpa (w : World) (nm dt : ByteArray) (sb : Nat) (s : Shp) (w' : World) : Prop where
  tt : Two w' w.heap.size (.string nm) (.string dt)
  rr : Nine w' (w.heap.size + 1) (.int .i64 0) (.int .i64 0) (.int .i64 0) (.int .i64 0) (.int .i64 0) (.int .i64 0) (.int .i64 0) (.int .i64 0) (.slice none 0 0)
  ss : Seven w' sb (.int .i64 (s.kind : Int)) (.string s.bytes) (.bool s.id) (.int .i64 (s.nums : Int)) (.int .i64 s.low) (.int .i64 s.high) (.bool s.pic)
  sh : Shapes w'
  lt : 0 < w'.heap.size
  bel : Below w.heap.size w w'
section
variable {w : World} {nm dt : ByteArray} {sb : Nat} {s : Shp} {w1 w2 : World}
theorem Gpa.on (h : Gpa w nm dt sb s w1) (hb : Below w1.heap.size w1 w2) : Gpa w nm dt sb s w2 :=
  ⟨h.tt.on hb, h.rr.on hb, h.ss.on hb, h.sh.on h.lt hb, Nat.lt_of_lt_of_le h.lt hb.size, h.bel.trans (hb.mono h.bel.size)⟩
theorem Gpa.onB {B : Nat} (h : Gpa w nm dt sb s w1) (hb : Below B w1 w2) (hB : B ≤ w1.heap.size) (h1 : w.heap.size + 2 ≤ B) (h2 : sb < B) (h3 : 0 < B) : Gpa w nm dt sb s w2 :=
  ⟨h.tt.onB hb (by omega), h.rr.onB hb (by omega), h.ss.onB hb h2, fun k s hk j u hu => (hb.cell (p := ⟨0, 7 * k + j, none⟩) h3).trans (h.sh k s hk j u hu), by have := hb.size; omega, h.bel.trans (hb.mono (by omega))⟩
theorem Gpa.drew (h : Gpa w nm dt sb s w1) : Gpa w nm dt sb s w1.drew :=
  ⟨h.tt.drew, h.rr.drew, h.ss.drew, h.sh, h.lt, h.bel.drew⟩
end
theorem nine_pic {W : World} {b : Nat} {x0 x1 x2 x3 x4 x5 x6 x7 x8 : Value} (h : Nine W b x0 x1 x2 x3 x4 x5 x6 x7 x8) (a c d : Value) : Nine (((W.setCell ⟨b, 6, none⟩ a).setCell ⟨b, 7, none⟩ c).setCell ⟨b, 8, none⟩ d) b x0 x1 x2 x3 x4 x5 a c d := by
  refine ⟨?_, ?_, ?_, ?_, ?_, ?_, ?_, ?_, ?_, by simp [h.f0], by simp [h.f1], by simp [h.f2], by simp [h.f3], by simp [h.f4], by simp [h.f5], by simp [h.f6], by simp [h.f7], by simp [h.f8], by simpa using h.lt⟩
  · rw [cell_set_ne _ _ _ _ _ (by decide), cell_set_ne _ _ _ _ _ (by decide), cell_set_ne _ _ _ _ _ (by decide)]; exact h.c0
  · rw [cell_set_ne _ _ _ _ _ (by decide), cell_set_ne _ _ _ _ _ (by decide), cell_set_ne _ _ _ _ _ (by decide)]; exact h.c1
  · rw [cell_set_ne _ _ _ _ _ (by decide), cell_set_ne _ _ _ _ _ (by decide), cell_set_ne _ _ _ _ _ (by decide)]; exact h.c2
  · rw [cell_set_ne _ _ _ _ _ (by decide), cell_set_ne _ _ _ _ _ (by decide), cell_set_ne _ _ _ _ _ (by decide)]; exact h.c3
  · rw [cell_set_ne _ _ _ _ _ (by decide), cell_set_ne _ _ _ _ _ (by decide), cell_set_ne _ _ _ _ _ (by decide)]; exact h.c4
  · rw [cell_set_ne _ _ _ _ _ (by decide), cell_set_ne _ _ _ _ _ (by decide), cell_set_ne _ _ _ _ _ (by decide)]; exact h.c5
  · rw [cell_set_ne _ _ _ _ _ (by decide), cell_set_ne _ _ _ _ _ (by decide)]; exact World.cell?_setCell_same _ _ _ h.c6
  · rw [cell_set_ne _ _ _ _ _ (by decide)]; exact World.cell?_setCell_same _ _ _ ((cell_set_ne _ _ _ _ _ (by decide)).trans h.c7)
  · exact World.cell?_setCell_same _ _ _ ((cell_set_ne _ _ _ _ _ (by decide)).trans ((cell_set_ne _ _ _ _ _ (by decide)).trans h.c8))
theorem nine_all {W : World} {b : Nat} {x0 x1 x2 x3 x4 x5 x6 x7 x8 : Value} (h : Nine W b x0 x1 x2 x3 x4 x5 x6 x7 x8) (y0 y1 y2 y3 y4 y5 y6 y7 y8 : Value) : Nine (((((((((W.setCell ⟨b, 0, none⟩ y0).setCell ⟨b, 1, none⟩ y1).setCell ⟨b, 2, none⟩ y2).setCell ⟨b, 3, none⟩ y3).setCell ⟨b, 4, none⟩ y4).setCell ⟨b, 5, none⟩ y5).setCell ⟨b, 6, none⟩ y6).setCell ⟨b, 7, none⟩ y7).setCell ⟨b, 8, none⟩ y8) b y0 y1 y2 y3 y4 y5 y6 y7 y8 := by
  refine ⟨?_, ?_, ?_, ?_, ?_, ?_, ?_, ?_, ?_, by simp [h.f0], by simp [h.f1], by simp [h.f2], by simp [h.f3], by simp [h.f4], by simp [h.f5], by simp [h.f6], by simp [h.f7], by simp [h.f8], by simpa using h.lt⟩
  · rw [cell_set_ne _ _ _ _ _ (by decide), cell_set_ne _ _ _ _ _ (by decide), cell_set_ne _ _ _ _ _ (by decide), cell_set_ne _ _ _ _ _ (by decide), cell_set_ne _ _ _ _ _ (by decide), cell_set_ne _ _ _ _ _ (by decide), cell_set_ne _ _ _ _ _ (by decide), cell_set_ne _ _ _ _ _ (by decide)]; exact World.cell?_setCell_same _ _ _ h.c0
  · rw [cell_set_ne _ _ _ _ _ (by decide), cell_set_ne _ _ _ _ _ (by decide), cell_set_ne _ _ _ _ _ (by decide), cell_set_ne _ _ _ _ _ (by decide), cell_set_ne _ _ _ _ _ (by decide), cell_set_ne _ _ _ _ _ (by decide), cell_set_ne _ _ _ _ _ (by decide)]; exact World.cell?_setCell_same _ _ _ ((cell_set_ne _ _ _ _ _ (by decide)).trans h.c1)
  · rw [cell_set_ne _ _ _ _ _ (by decide), cell_set_ne _ _ _ _ _ (by decide), cell_set_ne _ _ _ _ _ (by decide), cell_set_ne _ _ _ _ _ (by decide), cell_set_ne _ _ _ _ _ (by decide), cell_set_ne _ _ _ _ _ (by decide)]; exact World.cell?_setCell_same _ _ _ ((cell_set_ne _ _ _ _ _ (by decide)).trans ((cell_set_ne _ _ _ _ _ (by decide)).trans h.c2))
  · rw [cell_set_ne _ _ _ _ _ (by decide), cell_set_ne _ _ _ _ _ (by decide), cell_set_ne _ _ _ _ _ (by decide), cell_set_ne _ _ _ _ _ (by decide), cell_set_ne _ _ _ _ _ (by decide)]; exact World.cell?_setCell_same _ _ _ ((cell_set_ne _ _ _ _ _ (by decide)).trans ((cell_set_ne _ _ _ _ _ (by decide)).trans ((cell_set_ne _ _ _ _ _ (by decide)).trans h.c3)))
  · rw [cell_set_ne _ _ _ _ _ (by decide), cell_set_ne _ _ _ _ _ (by decide), cell_set_ne _ _ _ _ _ (by decide), cell_set_ne _ _ _ _ _ (by decide)]; exact World.cell?_setCell_same _ _ _ ((cell_set_ne _ _ _ _ _ (by decide)).trans ((cell_set_ne _ _ _ _ _ (by decide)).trans ((cell_set_ne _ _ _ _ _ (by decide)).trans ((cell_set_ne _ _ _ _ _ (by decide)).trans h.c4))))
  · rw [cell_set_ne _ _ _ _ _ (by decide), cell_set_ne _ _ _ _ _ (by decide), cell_set_ne _ _ _ _ _ (by decide)]; exact World.cell?_setCell_same _ _ _ ((cell_set_ne _ _ _ _ _ (by decide)).trans ((cell_set_ne _ _ _ _ _ (by decide)).trans ((cell_set_ne _ _ _ _ _ (by decide)).trans ((cell_set_ne _ _ _ _ _ (by decide)).trans ((cell_set_ne _ _ _ _ _ (by decide)).trans h.c5)))))
  · rw [cell_set_ne _ _ _ _ _ (by decide), cell_set_ne _ _ _ _ _ (by decide)]; exact World.cell?_setCell_same _ _ _ ((cell_set_ne _ _ _ _ _ (by decide)).trans ((cell_set_ne _ _ _ _ _ (by decide)).trans ((cell_set_ne _ _ _ _ _ (by decide)).trans ((cell_set_ne _ _ _ _ _ (by decide)).trans ((cell_set_ne _ _ _ _ _ (by decide)).trans ((cell_set_ne _ _ _ _ _ (by decide)).trans h.c6))))))
  · rw [cell_set_ne _ _ _ _ _ (by decide)]; exact World.cell?_setCell_same _ _ _ ((cell_set_ne _ _ _ _ _ (by decide)).trans ((cell_set_ne _ _ _ _ _ (by decide)).trans ((cell_set_ne _ _ _ _ _ (by decide)).trans ((cell_set_ne _ _ _ _ _ (by decide)).trans ((cell_set_ne _ _ _ _ _ (by decide)).trans ((cell_set_ne _ _ _ _ _ (by decide)).trans ((cell_set_ne _ _ _ _ _ (by decide)).trans h.c7)))))))
  · exact World.cell?_setCell_same _ _ _ ((cell_set_ne _ _ _ _ _ (by decide)).trans ((cell_set_ne _ _ _ _ _ (by decide)).trans ((cell_set_ne _ _ _ _ _ (by decide)).trans ((cell_set_ne _ _ _ _ _ (by decide)).trans ((cell_set_ne _ _ _ _ _ (by decide)).trans ((cell_set_ne _ _ _ _ _ (by decide)).trans ((cell_set_ne _ _ _ _ _ (by decide)).trans ((cell_set_ne _ _ _ _ _ (by decide)).trans h.c8))))))))
theorem own_al {X : World} {B : Nat} {e : TypeId} {z : Nat} {v : Value} {n : Nat} {xs : List Value} (h : X.ownsRow B e z v n xs) (o : Obj) : (X.alloc o).ownsRow B e z v n xs := own_on2 h ((Below.refl _ _).alloc (Nat.le_refl _) o)

set_option maxHeartbeats 16000000 in
set_option maxRecDepth 100000 in
theorem parseOp_own (nm dt : ByteArray) (w : World) (HS : Hid (Shapes w)) (h1 : 0 < w.heap.size) (hd : dt.size ≤ 1000000) :
    Calls Tryz.prog 24 #[.agg #[.string nm, .string dt]] w fun e w' => PaOP (parQ nm dt) w e w' := by
  obtain ⟨r, HRR⟩ : ∃ r, Hid (parQ nm dt = r) := ⟨_, (rfl : _ = _)⟩
  rw [HRR.out]
  obtain ⟨X0, HX0⟩ : ∃ X0, Hid ((w.alloc (.cells #[.string nm, .string dt] 37)).alloc (.cells #[.int .i64 0, .int .i64 0, .int .i64 0, .int .i64 0, .int .i64 0, .int .i64 0, .int .i64 0, .int .i64 0, .slice none 0 0] 48) = X0) := ⟨_, (rfl : _ = _)⟩
  have hbz : Below w.heap.size w X0 := by rw [← HX0.out]; exact ((Below.refl _ _).alloc (Nat.le_refl _) _).alloc (by simp) _
  have T0 := hid_of3 (show Two X0 w.heap.size (.string nm) (.string dt) by rw [← HX0.out]; exact (two_startB w _ _ 37 w.heap.size rfl).alloc _)
  have R0 := hid_of3 (show Nine X0 (w.heap.size + 1) (.int .i64 0) (.int .i64 0) (.int .i64 0) (.int .i64 0) (.int .i64 0) (.int .i64 0) (.int .i64 0) (.int .i64 0) (.slice none 0 0) by rw [← HX0.out]; exact nine_start _ _ _ _ _ _ _ _ _ _ 48 (w.heap.size + 1) (by simp))
  have HS0 : Hid (Shapes X0) := HS.out.on h1 hbz
  have h1' := Nat.lt_of_lt_of_le h1 hbz.size
  have hc0 : X0.cell? ⟨w.heap.size, 0, none⟩ = some (.string nm) := T0.out.c0
  have hlt0 : w.heap.size < X0.heap.size := by rw [← HX0.out]; simp; omega
  go_enter Tryz.func24, Tryz.ntmps24
  go_wp2_with fail
  rw [HX0.out]
  refine (findN_any nm w.heap.size X0 HS0 h1' hlt0 hc0).mono ?_
  unfold FindP
  obtain ⟨os, HOS⟩ : ∃ o, Hid (nameAt nm shps = o) := ⟨_, (rfl : _ = _)⟩
  rw [HOS.out]
  rintro e w2 ⟨hb2, he⟩
  have hbb2 := hbz.trans (hb2.mono hbz.size)
  have T2 := hid_of3 (T0.out.on hb2)
  have R2 := hid_of3 (R0.out.on hb2)
  have HS2 : Hid (Shapes w2) := HS0.out.on h1' hb2
  have h12 := Nat.lt_of_lt_of_le h1' hb2.size
  clear hbz hb2 T0 R0 HS0 h1' hc0 hlt0 HX0
  cases os with
  | none =>
    simp only at he
    subst he
    have HR5 : Hid (r = (q00, 5)) := by unfold Hid; rw [← HRR.out]; unfold parQ; rw [HOS.out]
    obtain ⟨r0, r1, r2, r3, r4, r5, r6, r7, r8, rf0, rf1, rf2, rf3, rf4, rf5, rf6, rf7, rf8, rlt⟩ := R2.out
    unfold shp0 Shp.val Shp.bytes
    go_wp2_with fail
    refine bodyPost_ret (v := .tuple #[.agg #[.int .i64 0, .int .i64 0, .int .i64 0, .int .i64 0, .int .i64 0, .int .i64 0, .int .i64 0, .int .i64 0, .slice none 0 0], .iface 62 (.int .i64 5)]) (by simp [results, Tryz.results24, go_sem, r0, r1, r2, r3, r4, r5, r6, r7, r8, rlt]) rfl (parP_err HR5 ?_ _ rfl)
    have hwz2 := hbb2.size
    repeat' (first | with_reducible apply Below.setCell | with_reducible apply Below.alloc | with_reducible apply Below.drew)
    all_goals first | exact hbb2 | (simp; done) | (simp; omega)
  | some s =>
  simp only at he
  subst he
  obtain ⟨hs1, hs2⟩ := shps_ok s (nameAt_mem _ _ _ HOS.out).1
  have hbs : Below w2.heap.size w2 (w2.alloc (.cells #[.int .i64 (s.kind : Int), .string s.bytes, .bool s.id, .int .i64 (s.nums : Int), .int .i64 s.low, .int .i64 s.high, .bool s.pic] 92)) := (Below.refl _ _).alloc (Nat.le_refl _) _
  have S2 := seven_start w2 (.int .i64 (s.kind : Int)) (.string s.bytes) (.bool s.id) (.int .i64 (s.nums : Int)) (.int .i64 s.low) (.int .i64 s.high) (.bool s.pic) 92 w2.heap.size rfl
  have HG0 : Gpa w nm dt w2.heap.size s (w2.alloc (.cells #[.int .i64 (s.kind : Int), .string s.bytes, .bool s.id, .int .i64 (s.nums : Int), .int .i64 s.low, .int .i64 s.high, .bool s.pic] 92)) := ⟨T2.out.on hbs, R2.out.on hbs, S2, HS2.out.on h12 hbs, Nat.lt_of_lt_of_le h12 hbs.size, hbb2.trans (hbs.mono hbb2.size)⟩
  have hbig : w.heap.size + 2 ≤ w2.heap.size := by have := R2.out.lt; omega
  clear hbb2 T2 R2 HS2 h12 hbs S2
  unfold Shp.val
  obtain ⟨X2, HX2⟩ : ∃ X, Hid (w2.alloc (.cells #[.int .i64 (s.kind : Int), .string s.bytes, .bool s.id, .int .i64 (s.nums : Int), .int .i64 s.low, .int .i64 s.high, .bool s.pic] 92) = X) := ⟨_, (rfl : _ = _)⟩
  obtain ⟨sb, HSB⟩ : ∃ b, Hid (w2.heap.size = b) := ⟨_, (rfl : _ = _)⟩
  have HG := hid_of3 HG0
  clear HG0
  obtain ⟨⟨t0, t1, -, -, -⟩, -, ⟨s0, s1, s2, s3, s4, s5, s6, -, -, -, -, -, -, -, -⟩, -, -, -⟩ := HG.out
  go_wp2_with fail
  rw [HX2.out, HSB.out] at HG
  rw [HX2.out, HSB.out]
  rw [HSB.out] at hbig
  clear t0 t1 s0 s1 s2 s3 s4 s5 s6 HX2 HSB
  have hsz := sizeS_any s X2 hs1
  unfold Shp.val at hsz
  refine hsz.mono ?_
  clear hsz
  rintro e w3 ⟨rfl, hb3⟩
  replace HG := hid_of3 (HG.out.on hb3)
  clear hb3
  obtain ⟨N, HN⟩ : ∃ n, Hid (sizeS s = n) := ⟨_, (rfl : _ = _)⟩
  have hN : N ≤ 9 := by rw [← HN.out]; unfold sizeS; split <;> omega
  rw [HN.out]
  obtain ⟨fpc, HFPC⟩ : ∃ b, Hid (s.pic = b) := ⟨_, (rfl : _ = _)⟩
  obtain ⟨D, HDD⟩ : ∃ n, Hid (dt.size = n) := ⟨_, (rfl : _ = _)⟩
  have HR4 : dt.size < N ∨ (N < dt.size ∧ fpc = false) → Hid (r = (q00, 4)) := fun hh => by
    unfold Hid; rw [← HRR.out]; unfold parQ; rw [HOS.out]; simp only
    rw [HN.out, HFPC.out, if_pos hh]
  obtain ⟨⟨t0, t1, -, -, -⟩, ⟨r0, r1, r2, r3, r4, r5, r6, r7, r8, rf0, rf1, rf2, rf3, rf4, rf5, rf6, rf7, rf8, rlt⟩, ⟨s0, s1, s2, s3, s4, s5, s6, -, -, -, -, -, -, -, -⟩, -, -, -⟩ := HG.out
  rw [HFPC.out] at s6
  by_cases g1 : dt.size < N
  · have g1i : (dt.size : Int) < (N : Int) := by omega
    have HR := HR4 (.inl g1)
    go_wp2_with fail
    refine bodyPost_ret (v := .tuple #[.agg #[.int .i64 0, .int .i64 0, .int .i64 0, .int .i64 0, .int .i64 0, .int .i64 0, .int .i64 0, .int .i64 0, .slice none 0 0], .iface 62 (.int .i64 4)]) (by simp [results, Tryz.results24, go_sem, r0, r1, r2, r3, r4, r5, r6, r7, r8]) rfl (parP_err HR ?_ _ rfl)
    repeat (refine Below.setCell ?_ (by first | (simp; done) | (simp; omega)) _)
    exact HG.out.bel
  have g1i : ¬ (dt.size : Int) < (N : Int) := by omega
  have HTK := hid_of3 (show (dt.extract 0 N).data.toList = dt.data.toList.take N by simp)
  have HTS : Hid ((dt.extract 0 N).size = sizeS s) := by unfold Hid; rw [HN.out, ByteArray.size_extract]; omega
  obtain ⟨q0, HQ0⟩ : ∃ q, Hid (readQ s.kind s.id s.nums (dt.data.toList.take N) = q) := ⟨_, (rfl : _ = _)⟩
  have HQP : Hid (q0.ps = []) := by unfold Hid; rw [← HQ0.out]; rfl
  have hrd := fun X => readS_any s (dt.extract 0 N) X hs1 HTS.out
  rw [HTK.out, HQ0.out] at hrd
  unfold Shp.val opV at hrd
  have HRD := hid_of3 hrd
  clear hrd
  have hN1 : (N : Int) ≤ (dt.size : Int) := by omega
  have hN2 : N ≤ dt.size := by omega
  have hN0 : (0 : Int) ≤ (N : Int) := by omega
  have KEEP : Hid (∀ W', Gpa w nm dt sb s W' → (W'.cell? ⟨w.heap.size, 1, none⟩ = some (.string dt) ∧ W'.cell? ⟨sb, 0, none⟩ = some (.int .i64 (s.kind : Int)) ∧ W'.cell? ⟨sb, 1, none⟩ = some (.string s.bytes) ∧ W'.cell? ⟨sb, 2, none⟩ = some (.bool s.id) ∧ W'.cell? ⟨sb, 3, none⟩ = some (.int .i64 (s.nums : Int)) ∧ W'.cell? ⟨sb, 4, none⟩ = some (.int .i64 s.low) ∧ W'.cell? ⟨sb, 5, none⟩ = some (.int .i64 s.high) ∧ W'.cell? ⟨sb, 6, none⟩ = some (.bool s.pic))) := fun W' h => ⟨h.tt.c1, h.ss.c0, h.ss.c1, h.ss.c2, h.ss.c3, h.ss.c4, h.ss.c5, h.ss.c6⟩
  have HGD := hid_of3 HG.out.drew
  by_cases g2 : N < dt.size ∧ fpc = false
  · have HR := HR4 (.inr g2)
    obtain ⟨g2a, g2b⟩ := g2
    subst g2b
    have g2i : (N : Int) < (dt.size : Int) := by omega
    go_wp2_with fail
    refine bodyPost_ret (v := .tuple #[.agg #[.int .i64 0, .int .i64 0, .int .i64 0, .int .i64 0, .int .i64 0, .int .i64 0, .int .i64 0, .int .i64 0, .slice none 0 0], .iface 62 (.int .i64 4)]) (by simp [results, Tryz.results24, go_sem, r0, r1, r2, r3, r4, r5, r6, r7, r8]) rfl (parP_err HR ?_ _ rfl)
    repeat (refine Below.setCell ?_ (by first | (simp; done) | (simp; omega)) _)
    exact HG.out.bel
  have g3 : (N : Int) < (dt.size : Int) → fpc = true := fun h => by cases fpc; exact absurd ⟨by omega, rfl⟩ g2; rfl
  have HG3 := hid_of3 g3
  have HNC : Hid (¬ (dt.size < N ∨ (N < dt.size ∧ s.pic = false))) := by
    intro h
    rcases h with h | ⟨h, h2⟩
    · exact g1 h
    · rw [HFPC.out] at h2; exact g2 ⟨h, h2⟩
  have HRF : Hid (r = if s.pic = true then (if (parseL (dt.data.toList.drop N)).2.2.2 = 0 then finQ { q0 with pw := ((parseL (dt.data.toList.drop N)).1 : Int), ph := ((parseL (dt.data.toList.drop N)).2.1 : Int), ps := (parseL (dt.data.toList.drop N)).2.2.1 } else (q00, (parseL (dt.data.toList.drop N)).2.2.2)) else finQ q0) := by
    unfold Hid; rw [← HRR.out]; unfold parQ; rw [HOS.out]; simp only
    rw [HN.out, if_neg HNC.out, HQ0.out]
  have hw3 : w.heap.size + 2 ≤ w3.heap.size := by have := HG.out.rr.lt; omega
  have hsb3 := HG.out.ss.lt
  have hgl3 := HG.out.lt
  have hbA : Below w3.drew.heap.size w3.drew (w3.drew.alloc (.cells #[.int .i64 0, .int .i64 0, .int .i64 0, .int .i64 0, .int .i64 0, .int .i64 0, .int .i64 0, .int .i64 0, .slice none 0 0] 48)) := (Below.refl _ _).alloc (Nat.le_refl _) _
  have HGA := hid_of3 (HGD.out.on hbA)
  have HZA := hid_of3 (nine_start w3.drew (.int .i64 0) (.int .i64 0) (.int .i64 0) (.int .i64 0) (.int .i64 0) (.int .i64 0) (.int .i64 0) (.int .i64 0) (.slice none 0 0) 48 w3.heap.size rfl)
  clear g2 g3 HR4 hbA
  by_cases g3i : (N : Int) < (dt.size : Int)
  case pos =>
    obtain rfl := HG3.out g3i
    go_wp2_with fail
    refine wp_region_held_drew (S := (fun W' => W'.cell? ⟨w.heap.size, 1, none⟩ = some (.string dt) ∧ W'.cell? ⟨sb, 0, none⟩ = some (.int .i64 (s.kind : Int)) ∧ W'.cell? ⟨sb, 1, none⟩ = some (.string s.bytes) ∧ W'.cell? ⟨sb, 2, none⟩ = some (.bool s.id) ∧ W'.cell? ⟨sb, 3, none⟩ = some (.int .i64 (s.nums : Int)) ∧ W'.cell? ⟨sb, 4, none⟩ = some (.int .i64 s.low) ∧ W'.cell? ⟨sb, 5, none⟩ = some (.int .i64 s.high) ∧ W'.cell? ⟨sb, 6, none⟩ = some (.bool s.pic))) (by kernel_rfl) ?_ (fun hHeld => ?_)
    · exact KEEP.out _ HGD.out
    refine wpAnyH_take (i := 0) (oi := ({ dst := some 41, op := Op.load 92 (Operand.tmp 4), type := 92, pos := "op.go:97", after := #[], guard := none } : Oper)) (v := ?_) rfl (by kernel_rfl) (by kernel_rfl) (by kernel_rfl) (fun _ _ _ h => h) (Or.inl ⟨by rfl, ?_⟩) (by assumption) ?_
    rotate_left
    · (intro w hSw; (try dsimp only at hSw); go_simp; try with_reducible rfl)
    try simp only [Act.put, List.setIfInBounds_toArray, List.set_cons_zero, List.set_cons_succ]
    refine wpAnyH_take (i := 1) (oi := ({ dst := some 42, op := Op.fieldAddr 37 (Operand.tmp 1) 1, type := 0, pos := "op.go:97", after := #[], guard := none } : Oper)) (v := ?_) rfl (by kernel_rfl) (by kernel_rfl) (by kernel_rfl) (fun _ _ _ h => h) (Or.inl ⟨by rfl, ?_⟩) (by assumption) ?_
    rotate_left
    · (intro w hSw; (try dsimp only at hSw); go_simp; try with_reducible rfl)
    try simp only [Act.put, List.setIfInBounds_toArray, List.set_cons_zero, List.set_cons_succ]
    refine wpAnyH_take (i := 2) (oi := ({ dst := some 43, op := Op.load 9 (Operand.tmp 42), type := 9, pos := "op.go:97", after := #[{ on := 1, ground := Ground.data }], guard := none } : Oper)) (v := ?_) rfl (by kernel_rfl) (by kernel_rfl) (by kernel_rfl) (fun _ _ _ h => h) (Or.inl ⟨by rfl, ?_⟩) (by assumption) ?_
    rotate_left
    · (intro w hSw; (try dsimp only at hSw); go_simp; try with_reducible rfl)
    try simp only [Act.put, List.setIfInBounds_toArray, List.set_cons_zero, List.set_cons_succ]
    refine wpAnyH_take (i := 3) (oi := ({ dst := some 44, op := Op.move (Operand.tmp 6), type := 3, pos := "op.go:97", after := #[], guard := none } : Oper)) (v := ?_) rfl (by kernel_rfl) (by kernel_rfl) (by kernel_rfl) (fun _ _ _ h => h) (Or.inl ⟨by rfl, ?_⟩) (by assumption) ?_
    rotate_left
    · (intro w hSw; (try dsimp only at hSw); go_simp; try with_reducible rfl)
    try simp only [Act.put, List.setIfInBounds_toArray, List.set_cons_zero, List.set_cons_succ]
    refine wpAnyH_take (i := 4) (oi := ({ dst := some 45, op := Op.slice 9 (Operand.tmp 43) none (some (Operand.tmp 44)) none, type := 9, pos := "op.go:97", after := #[{ on := 2, ground := Ground.data }, { on := 3, ground := Ground.data }], guard := none } : Oper)) (v := ?_) rfl (by kernel_rfl) (by kernel_rfl) (by kernel_rfl) (fun _ _ _ h => h) (Or.inl ⟨by rfl, ?_⟩) (by assumption) ?_
    rotate_left
    · (intro w hSw; (try dsimp only at hSw); go_simp; try with_reducible rfl)
    try simp only [Act.put, List.setIfInBounds_toArray, List.set_cons_zero, List.set_cons_succ]
    refine wpAnyH_ready (rs := [5, 6]) (by kernel_rfl) (by simp) ?_
    refine AllReadyH.cons (o := ({ dst := some 46, op := Op.call { callee := Callee.value (Operand.func 47), args := #[Operand.tmp 41, Operand.tmp 45], argTypes := #[92, 9] }, type := 48, pos := "op.go:97", after := #[{ on := 0, ground := Ground.data }, { on := 4, ground := Ground.data }], guard := none } : Oper)) rfl (fun K_ hK => ?_) (AllReadyH.cons (o := ({ dst := some 7, op := Op.alloc 48, type := 0, pos := "op.go:97", after := #[], guard := none } : Oper)) rfl (fun K_ hK => ?_) AllReadyH.nil)
    · go_simp
      refine (HRD.out _).mono ?_
      rintro e w4 ⟨rfl, hb4⟩
      have HG4 := hid_of3 (HGD.out.on hb4)
      try dsimp only
      refine hK.out _ _ ?_ (fun hHeld => ?_)
      · exact KEEP.out _ HG4.out
      clear hK K_
      try simp only [Act.put, List.setIfInBounds_toArray, List.set_cons_zero, List.set_cons_succ]
      refine wpAnyH_ready (rs := [6]) (by kernel_rfl) (by simp) ?_
      refine AllReadyH.cons (o := ({ dst := some 7, op := Op.alloc 48, type := 0, pos := "op.go:97", after := #[], guard := none } : Oper)) rfl (fun K_ hK => ?_) AllReadyH.nil
      go_simp
      refine hK.out _ _ ?_ (fun hHeld => ?_)
      · exact KEEP.out _ (HG4.out.on ((Below.refl _ _).alloc (Nat.le_refl _) _))
      clear hK K_
      try simp only [Act.put, List.setIfInBounds_toArray, List.set_cons_zero, List.set_cons_succ]
      refine wpAnyH_ready (rs := [7]) (by kernel_rfl) (by simp) ?_
      refine AllReadyH.cons (o := ({ dst := none, op := Op.store 48 (Operand.tmp 7) (Operand.tmp 46), type := 0, pos := "op.go:97", after := #[{ on := 6, ground := Ground.data }, { on := 5, ground := Ground.data }, { on := 5, ground := Ground.chain }, { on := 0, ground := Ground.phase }, { on := 1, ground := Ground.phase }, { on := 2, ground := Ground.phase }, { on := 3, ground := Ground.phase }, { on := 4, ground := Ground.phase }, { on := 5, ground := Ground.phase }, { on := 6, ground := Ground.phase }], guard := none } : Oper)) rfl (fun K_ hK => ?_) AllReadyH.nil
      go_simp
      refine hK.out _ _ ?_ (fun hHeld => ?_)
      · exact KEEP.out _ (HG4.out.on ((Below.refl _ _).alloc (Nat.le_refl _) _))
      clear hK K_
      try simp only [Act.put, List.setIfInBounds_toArray, List.set_cons_zero, List.set_cons_succ]
      refine wpAnyH_done (by kernel_rfl) ?_ _
      obtain ⟨Wt, HWT⟩ : ∃ W, Hid (w4.alloc (.cells #[.int .i64 q0.kind, .int .i64 q0.id, .int .i64 q0.a, .int .i64 q0.b, .int .i64 q0.c, .int .i64 q0.d, .int .i64 q0.pw, .int .i64 q0.ph, .slice none 0 0] 48) = W) := ⟨_, (rfl : _ = _)⟩
      have HGT := hid_of3 (HG4.out.on (show Below w4.heap.size w4 (w4.alloc (.cells #[.int .i64 q0.kind, .int .i64 q0.id, .int .i64 q0.a, .int .i64 q0.b, .int .i64 q0.c, .int .i64 q0.d, .int .i64 q0.pw, .int .i64 q0.ph, .slice none 0 0] 48)) from (Below.refl _ _).alloc (Nat.le_refl _) _))
      have HNT := hid_of3 (nine_start w4 (.int .i64 q0.kind) (.int .i64 q0.id) (.int .i64 q0.a) (.int .i64 q0.b) (.int .i64 q0.c) (.int .i64 q0.d) (.int .i64 q0.pw) (.int .i64 q0.ph) (.slice none 0 0) 48 w4.heap.size rfl)
      have hbb : w3.heap.size ≤ w4.heap.size := hb4.size
      obtain ⟨bb, HBB⟩ : ∃ b, Hid (w4.heap.size = b) := ⟨_, (rfl : _ = _)⟩
      rw [HWT.out] at HGT HNT
      rw [HBB.out] at HNT hbb
      rw [HWT.out, HBB.out]
      clear HWT HBB HG4 HGA HZA HGD
      obtain ⟨⟨t0, t1, -, -, -⟩, -, ⟨-, -, -, -, -, -, s6, -, -, -, -, -, -, -, -⟩, -, -, -⟩ := HGT.out
      rw [HFPC.out] at s6
      have HDX := hid_of3 (Lib.extract_to_end dt N)
      obtain ⟨z, HZP⟩ : ∃ z, Hid (parseL (dt.data.toList.drop N) = z) := ⟨_, (rfl : _ = _)⟩
      obtain ⟨PW, PH, ps, pc⟩ := z
      have HZX : Hid (parseL (dt.extract N dt.size).data.toList = (PW, PH, ps, pc)) := by unfold Hid; rw [HDX.out]; exact HZP.out
      go_wp2_with fail
      refine (parseO_any (dt.extract N dt.size) _ (by rw [ByteArray.size_extract]; omega) PW PH pc ps HZX).mono ?_
      rintro e w5 ⟨v5, rfl, ho5, hb5⟩
      have HO5 := hid_of3 ho5
      have HG5 := hid_of3 (HGT.out.on hb5)
      have HN5 := hid_of3 (HNT.out.on hb5)
      have hbtW : bb < Wt.heap.size := HNT.out.lt
      have hbt5 : bb < w5.heap.size := HN5.out.lt
      have hwz5 := HG5.out.bel.size
      obtain ⟨a5, c5, hv5⟩ := own_any ho5
      obtain ⟨n5, HL5⟩ : ∃ n, Hid (ps.length = n) := ⟨_, (rfl : _ = _)⟩
      rw [HL5.out] at hv5
      subst hv5
      clear ho5 hb5 t0 t1 s6
      obtain ⟨r0, r1, r2, r3, r4, r5, r6, r7, r8, rf0, rf1, rf2, rf3, rf4, rf5, rf6, rf7, rf8, rlt⟩ := HG5.out.rr
      by_cases hpc : pc = 0
      case neg =>
        have he : errV pc = .iface 62 (.int .i64 (pc : Int)) := by unfold errV; rw [if_neg hpc]
        rw [he]
        have HR : Hid (r = (q00, pc)) := by unfold Hid; rw [HRF.out, if_pos HFPC.out, HZP.out, if_neg hpc]
        go_wp2_with fail
        refine bodyPost_ret (v := .tuple #[.agg #[.int .i64 0, .int .i64 0, .int .i64 0, .int .i64 0, .int .i64 0, .int .i64 0, .int .i64 0, .int .i64 0, .slice none 0 0], .iface 62 (.int .i64 (pc : Int))]) (by simp [results, Tryz.results24, go_sem, r0, r1, r2, r3, r4, r5, r6, r7, r8, rlt]) rfl (parP_err HR ?_ _ he)
        exact (by (repeat' (first | with_reducible apply Below.setCell | with_reducible apply Below.alloc | with_reducible apply Below.drew)) <;> first | exact HG5.out.bel | (simp; done) | (simp; omega))
      subst hpc
      rw [show errV 0 = .nilIface from rfl]
      obtain ⟨k0, k1, k2, k3, k4, k5, k6, k7, k8, kf0, kf1, kf2, kf3, kf4, kf5, kf6, kf7, kf8, klt⟩ := HN5.out
      clear r0 r1 r2 r3 r4 r5 r6 r7 r8 rf0 rf1 rf2 rf3 rf4 rf5 rf6 rf7 rf8 rlt
      go_wp2_with fail
      obtain ⟨cc, HCC⟩ : ∃ c, Hid (opC ⟨q0.kind, q0.id, q0.a, q0.b, q0.c, q0.d, (PW : Int), (PH : Int), ps⟩ = c) := ⟨_, (rfl : _ = _)⟩
      have HRC : Hid (r = finQ ⟨q0.kind, q0.id, q0.a, q0.b, q0.c, q0.d, (PW : Int), (PH : Int), ps⟩) := by unfold Hid; rw [HRF.out, if_pos HFPC.out, HZP.out, if_pos rfl]
      have hpl : ps.length ≤ 1000000000 := Nat.le_trans (parse_lenP _ _ _ _ _ HZP.out) (by omega)
      have hck := fun X (hS : Shapes X) (hl : 0 < X.heap.size) (hU : RdP X (.slice a5 n5 c5) ps) => opCheck_any ⟨q0.kind, q0.id, q0.a, q0.b, q0.c, q0.d, (PW : Int), (PH : Int), ps⟩ (.slice a5 n5 c5) X hS hl hU hpl cc HCC
      unfold opV at hck
      obtain ⟨W8, HW8⟩ : ∃ W, Hid ((((w5.setCell ⟨bb, 6, none⟩ (.int .i64 (PW : Int))).setCell ⟨bb, 7, none⟩ (.int .i64 (PH : Int))).setCell ⟨bb, 8, none⟩ (.slice a5 n5 c5)).alloc (.cells #[.int .i64 (PW : Int), .int .i64 (PH : Int), .slice a5 n5 c5] 46) = W) := ⟨_, (rfl : _ = _)⟩
      have hbl8 : Below bb w5 W8 := by
        rw [← HW8.out]
        exact (((((Below.refl bb w5).setCell (show bb ≤ (⟨bb, 6, none⟩ : Addr).block from Nat.le_refl _) _).setCell (show bb ≤ (⟨bb, 7, none⟩ : Addr).block from Nat.le_refl _) _).setCell (show bb ≤ (⟨bb, 8, none⟩ : Addr).block from Nat.le_refl _) _)).alloc (by simp; omega) _
      have HG8 := hid_of3 (HG5.out.onB hbl8 (by omega) (by omega) (by omega) (by omega))
      have HN8 := hid_of3 (show Nine W8 bb (.int .i64 q0.kind) (.int .i64 q0.id) (.int .i64 q0.a) (.int .i64 q0.b) (.int .i64 q0.c) (.int .i64 q0.d) (.int .i64 (PW : Int)) (.int .i64 (PH : Int)) (.slice a5 n5 c5) by rw [← HW8.out]; exact (nine_pic HN5.out _ _ _).alloc _)
      have HO8 : Hid (W8.ownsRow (bb + 1) 52 2 (.slice a5 n5 c5) ps.length (pixCells ps)) := by
        rw [← HW8.out]
        refine own_al ?_ _
        exact ownsRow_setCell_below (ownsRow_setCell_below (ownsRow_setCell_below (own_mono HO5.out (show bb + 1 ≤ _ by omega)) (a := ⟨bb, 6, none⟩) (Nat.lt_succ_self _) _) (a := ⟨bb, 7, none⟩) (Nat.lt_succ_self _) _) (a := ⟨bb, 8, none⟩) (Nat.lt_succ_self _) _
      rw [HW8.out]
      refine (hck W8 HG8.out.sh HG8.out.lt (rdP_own HO8.out)).mono ?_
      clear hck k0 k1 k2 k3 k4 k5 k6 k7 k8 kf0 kf1 kf2 kf3 kf4 kf5 kf6 kf7 kf8 klt
      rintro e w9 ⟨rfl, hb9⟩
      have HG9 := hid_of3 (HG8.out.on hb9)
      have HN9 := hid_of3 (HN8.out.on hb9)
      have HO9 := hid_of3 (own_on2 HO8.out hb9)
      clear hb9 HW8
      obtain ⟨r0, r1, r2, r3, r4, r5, r6, r7, r8, rf0, rf1, rf2, rf3, rf4, rf5, rf6, rf7, rf8, rlt⟩ := HG9.out.rr
      by_cases hcc : cc = 0
      case neg =>
        have he : errV cc = .iface 62 (.int .i64 (cc : Int)) := by unfold errV; rw [if_neg hcc]
        rw [he]
        have HR : Hid (r = (q00, cc)) := by unfold Hid; rw [HRC.out]; unfold finQ; rw [HCC.out, if_neg hcc]
        go_wp2_with fail
        refine bodyPost_ret (v := .tuple #[.agg #[.int .i64 0, .int .i64 0, .int .i64 0, .int .i64 0, .int .i64 0, .int .i64 0, .int .i64 0, .int .i64 0, .slice none 0 0], .iface 62 (.int .i64 (cc : Int))]) (by simp [results, Tryz.results24, go_sem, r0, r1, r2, r3, r4, r5, r6, r7, r8]) rfl (parP_err HR ?_ _ he)
        exact (by (repeat' (first | with_reducible apply Below.setCell | with_reducible apply Below.alloc | with_reducible apply Below.drew)) <;> first | exact HG9.out.bel | (simp; done) | (simp; omega))
      subst hcc
      rw [show errV 0 = .nilIface from rfl]
      have HR : Hid (r = (⟨q0.kind, q0.id, q0.a, q0.b, q0.c, q0.d, (PW : Int), (PH : Int), ps⟩, 0)) := by unfold Hid; rw [HRC.out]; unfold finQ; rw [HCC.out, if_pos rfl]
      obtain ⟨k0, k1, k2, k3, k4, k5, k6, k7, k8, kf0, kf1, kf2, kf3, kf4, kf5, kf6, kf7, kf8, klt⟩ := HN9.out
      go_wp2_with fail
      refine bodyPost_ret (v := .tuple #[.agg #[.int .i64 q0.kind, .int .i64 q0.id, .int .i64 q0.a, .int .i64 q0.b, .int .i64 q0.c, .int .i64 q0.d, .int .i64 (PW : Int), .int .i64 (PH : Int), .slice a5 n5 c5], .nilIface]) (by simp [results, Tryz.results24, go_sem, r0, r1, r2, r3, r4, r5, r6, r7, r8]) rfl (parP_ok HR ?_ ?_)
      · exact own_mono (ownsRow_setCell_below (ownsRow_setCell_below (ownsRow_setCell_below (ownsRow_setCell_below (ownsRow_setCell_below (ownsRow_setCell_below (ownsRow_setCell_below (ownsRow_setCell_below (ownsRow_setCell_below HO9.out (a := ⟨w.heap.size + 1, 0, none⟩) (show w.heap.size + 1 < bb + 1 by omega) _) (a := ⟨w.heap.size + 1, 1, none⟩) (show w.heap.size + 1 < bb + 1 by omega) _) (a := ⟨w.heap.size + 1, 2, none⟩) (show w.heap.size + 1 < bb + 1 by omega) _) (a := ⟨w.heap.size + 1, 3, none⟩) (show w.heap.size + 1 < bb + 1 by omega) _) (a := ⟨w.heap.size + 1, 4, none⟩) (show w.heap.size + 1 < bb + 1 by omega) _) (a := ⟨w.heap.size + 1, 5, none⟩) (show w.heap.size + 1 < bb + 1 by omega) _) (a := ⟨w.heap.size + 1, 6, none⟩) (show w.heap.size + 1 < bb + 1 by omega) _) (a := ⟨w.heap.size + 1, 7, none⟩) (show w.heap.size + 1 < bb + 1 by omega) _) (a := ⟨w.heap.size + 1, 8, none⟩) (show w.heap.size + 1 < bb + 1 by omega) _) (by omega)
      · exact (by (repeat' (first | with_reducible apply Below.setCell | with_reducible apply Below.alloc | with_reducible apply Below.drew)) <;> first | exact HG9.out.bel | (simp; done) | (simp; omega))
    · go_simp
      refine hK.out _ _ ?_ (fun hHeld => ?_)
      · exact KEEP.out _ HGA.out
      clear hK K_
      try simp only [Act.put, List.setIfInBounds_toArray, List.set_cons_zero, List.set_cons_succ]
      refine wpAnyH_ready (rs := [5]) (by kernel_rfl) (by simp) ?_
      refine AllReadyH.cons (o := ({ dst := some 46, op := Op.call { callee := Callee.value (Operand.func 47), args := #[Operand.tmp 41, Operand.tmp 45], argTypes := #[92, 9] }, type := 48, pos := "op.go:97", after := #[{ on := 0, ground := Ground.data }, { on := 4, ground := Ground.data }], guard := none } : Oper)) rfl (fun K_ hK => ?_) AllReadyH.nil
      go_simp
      refine (HRD.out _).mono ?_
      rintro e w4 ⟨rfl, hb4⟩
      have HG4 := hid_of3 (HGA.out.on hb4)
      have HZ4 := hid_of3 (HZA.out.on hb4)
      have hsz4 : w3.heap.size ≤ w4.heap.size := by have h4 := hb4.size; simp at h4; omega
      try dsimp only
      refine hK.out _ _ ?_ (fun hHeld => ?_)
      · exact KEEP.out _ HG4.out
      clear hK K_
      try simp only [Act.put, List.setIfInBounds_toArray, List.set_cons_zero, List.set_cons_succ]
      obtain ⟨z0, z1, z2, z3, z4, z5, z6, z7, z8, zf0, zf1, zf2, zf3, zf4, zf5, zf6, zf7, zf8, zlt⟩ := HZ4.out
      refine wpAnyH_ready (rs := [7]) (by kernel_rfl) (by simp) ?_
      refine AllReadyH.cons (o := ({ dst := none, op := Op.store 48 (Operand.tmp 7) (Operand.tmp 46), type := 0, pos := "op.go:97", after := #[{ on := 6, ground := Ground.data }, { on := 5, ground := Ground.data }, { on := 5, ground := Ground.chain }, { on := 0, ground := Ground.phase }, { on := 1, ground := Ground.phase }, { on := 2, ground := Ground.phase }, { on := 3, ground := Ground.phase }, { on := 4, ground := Ground.phase }, { on := 5, ground := Ground.phase }, { on := 6, ground := Ground.phase }], guard := none } : Oper)) rfl (fun K_ hK => ?_) AllReadyH.nil
      go_simp
      refine hK.out _ _ ?_ (fun hHeld => ?_)
      · exact KEEP.out _ (HG4.out.onB (B := w3.heap.size) (by (repeat (refine Below.setCell ?_ (by simp) _)); exact Below.refl _ _) hsz4 hw3 hsb3 hgl3)
      clear hK K_
      try simp only [Act.put, List.setIfInBounds_toArray, List.set_cons_zero, List.set_cons_succ]
      refine wpAnyH_done (by kernel_rfl) ?_ _
      obtain ⟨Wt, HWT⟩ : ∃ W, Hid ((((((((((w4.setCell ⟨w3.heap.size, 0, none⟩ (.int .i64 q0.kind)).setCell ⟨w3.heap.size, 1, none⟩ (.int .i64 q0.id)).setCell ⟨w3.heap.size, 2, none⟩ (.int .i64 q0.a)).setCell ⟨w3.heap.size, 3, none⟩ (.int .i64 q0.b)).setCell ⟨w3.heap.size, 4, none⟩ (.int .i64 q0.c)).setCell ⟨w3.heap.size, 5, none⟩ (.int .i64 q0.d)).setCell ⟨w3.heap.size, 6, none⟩ (.int .i64 q0.pw)).setCell ⟨w3.heap.size, 7, none⟩ (.int .i64 q0.ph)).setCell ⟨w3.heap.size, 8, none⟩ (.slice none 0 0)) = W) := ⟨_, (rfl : _ = _)⟩
      have HGT : Hid (Gpa w nm dt sb s Wt) := by
        rw [← HWT.out]
        exact HG4.out.onB (B := w3.heap.size) (by (repeat (refine Below.setCell ?_ (by simp) _)); exact Below.refl _ _) hsz4 hw3 hsb3 hgl3
      have HNT : Hid (Nine Wt w3.heap.size (.int .i64 q0.kind) (.int .i64 q0.id) (.int .i64 q0.a) (.int .i64 q0.b) (.int .i64 q0.c) (.int .i64 q0.d) (.int .i64 q0.pw) (.int .i64 q0.ph) (.slice none 0 0)) := by rw [← HWT.out]; exact nine_all HZ4.out _ _ _ _ _ _ _ _ _
      obtain ⟨bb, HBB⟩ : ∃ b, Hid (w3.heap.size = b) := ⟨_, (rfl : _ = _)⟩
      have hbb : w3.heap.size ≤ bb := Nat.le_of_eq HBB.out
      rw [HBB.out] at HNT
      rw [HWT.out, HBB.out]
      clear HWT HBB HG4 HGA HZA HGD HZ4 z0 z1 z2 z3 z4 z5 z6 z7 z8 zf0 zf1 zf2 zf3 zf4 zf5 zf6 zf7 zf8 zlt
      obtain ⟨⟨t0, t1, -, -, -⟩, -, ⟨-, -, -, -, -, -, s6, -, -, -, -, -, -, -, -⟩, -, -, -⟩ := HGT.out
      rw [HFPC.out] at s6
      have HDX := hid_of3 (Lib.extract_to_end dt N)
      obtain ⟨z, HZP⟩ : ∃ z, Hid (parseL (dt.data.toList.drop N) = z) := ⟨_, (rfl : _ = _)⟩
      obtain ⟨PW, PH, ps, pc⟩ := z
      have HZX : Hid (parseL (dt.extract N dt.size).data.toList = (PW, PH, ps, pc)) := by unfold Hid; rw [HDX.out]; exact HZP.out
      go_wp2_with fail
      refine (parseO_any (dt.extract N dt.size) _ (by rw [ByteArray.size_extract]; omega) PW PH pc ps HZX).mono ?_
      rintro e w5 ⟨v5, rfl, ho5, hb5⟩
      have HO5 := hid_of3 ho5
      have HG5 := hid_of3 (HGT.out.on hb5)
      have HN5 := hid_of3 (HNT.out.on hb5)
      have hbtW : bb < Wt.heap.size := HNT.out.lt
      have hbt5 : bb < w5.heap.size := HN5.out.lt
      have hwz5 := HG5.out.bel.size
      obtain ⟨a5, c5, hv5⟩ := own_any ho5
      obtain ⟨n5, HL5⟩ : ∃ n, Hid (ps.length = n) := ⟨_, (rfl : _ = _)⟩
      rw [HL5.out] at hv5
      subst hv5
      clear ho5 hb5 t0 t1 s6
      obtain ⟨r0, r1, r2, r3, r4, r5, r6, r7, r8, rf0, rf1, rf2, rf3, rf4, rf5, rf6, rf7, rf8, rlt⟩ := HG5.out.rr
      by_cases hpc : pc = 0
      case neg =>
        have he : errV pc = .iface 62 (.int .i64 (pc : Int)) := by unfold errV; rw [if_neg hpc]
        rw [he]
        have HR : Hid (r = (q00, pc)) := by unfold Hid; rw [HRF.out, if_pos HFPC.out, HZP.out, if_neg hpc]
        go_wp2_with fail
        refine bodyPost_ret (v := .tuple #[.agg #[.int .i64 0, .int .i64 0, .int .i64 0, .int .i64 0, .int .i64 0, .int .i64 0, .int .i64 0, .int .i64 0, .slice none 0 0], .iface 62 (.int .i64 (pc : Int))]) (by simp [results, Tryz.results24, go_sem, r0, r1, r2, r3, r4, r5, r6, r7, r8, rlt]) rfl (parP_err HR ?_ _ he)
        exact (by (repeat' (first | with_reducible apply Below.setCell | with_reducible apply Below.alloc | with_reducible apply Below.drew)) <;> first | exact HG5.out.bel | (simp; done) | (simp; omega))
      subst hpc
      rw [show errV 0 = .nilIface from rfl]
      obtain ⟨k0, k1, k2, k3, k4, k5, k6, k7, k8, kf0, kf1, kf2, kf3, kf4, kf5, kf6, kf7, kf8, klt⟩ := HN5.out
      clear r0 r1 r2 r3 r4 r5 r6 r7 r8 rf0 rf1 rf2 rf3 rf4 rf5 rf6 rf7 rf8 rlt
      go_wp2_with fail
      obtain ⟨cc, HCC⟩ : ∃ c, Hid (opC ⟨q0.kind, q0.id, q0.a, q0.b, q0.c, q0.d, (PW : Int), (PH : Int), ps⟩ = c) := ⟨_, (rfl : _ = _)⟩
      have HRC : Hid (r = finQ ⟨q0.kind, q0.id, q0.a, q0.b, q0.c, q0.d, (PW : Int), (PH : Int), ps⟩) := by unfold Hid; rw [HRF.out, if_pos HFPC.out, HZP.out, if_pos rfl]
      have hpl : ps.length ≤ 1000000000 := Nat.le_trans (parse_lenP _ _ _ _ _ HZP.out) (by omega)
      have hck := fun X (hS : Shapes X) (hl : 0 < X.heap.size) (hU : RdP X (.slice a5 n5 c5) ps) => opCheck_any ⟨q0.kind, q0.id, q0.a, q0.b, q0.c, q0.d, (PW : Int), (PH : Int), ps⟩ (.slice a5 n5 c5) X hS hl hU hpl cc HCC
      unfold opV at hck
      obtain ⟨W8, HW8⟩ : ∃ W, Hid ((((w5.setCell ⟨bb, 6, none⟩ (.int .i64 (PW : Int))).setCell ⟨bb, 7, none⟩ (.int .i64 (PH : Int))).setCell ⟨bb, 8, none⟩ (.slice a5 n5 c5)).alloc (.cells #[.int .i64 (PW : Int), .int .i64 (PH : Int), .slice a5 n5 c5] 46) = W) := ⟨_, (rfl : _ = _)⟩
      have hbl8 : Below bb w5 W8 := by
        rw [← HW8.out]
        exact (((((Below.refl bb w5).setCell (show bb ≤ (⟨bb, 6, none⟩ : Addr).block from Nat.le_refl _) _).setCell (show bb ≤ (⟨bb, 7, none⟩ : Addr).block from Nat.le_refl _) _).setCell (show bb ≤ (⟨bb, 8, none⟩ : Addr).block from Nat.le_refl _) _)).alloc (by simp; omega) _
      have HG8 := hid_of3 (HG5.out.onB hbl8 (by omega) (by omega) (by omega) (by omega))
      have HN8 := hid_of3 (show Nine W8 bb (.int .i64 q0.kind) (.int .i64 q0.id) (.int .i64 q0.a) (.int .i64 q0.b) (.int .i64 q0.c) (.int .i64 q0.d) (.int .i64 (PW : Int)) (.int .i64 (PH : Int)) (.slice a5 n5 c5) by rw [← HW8.out]; exact (nine_pic HN5.out _ _ _).alloc _)
      have HO8 : Hid (W8.ownsRow (bb + 1) 52 2 (.slice a5 n5 c5) ps.length (pixCells ps)) := by
        rw [← HW8.out]
        refine own_al ?_ _
        exact ownsRow_setCell_below (ownsRow_setCell_below (ownsRow_setCell_below (own_mono HO5.out (show bb + 1 ≤ _ by omega)) (a := ⟨bb, 6, none⟩) (Nat.lt_succ_self _) _) (a := ⟨bb, 7, none⟩) (Nat.lt_succ_self _) _) (a := ⟨bb, 8, none⟩) (Nat.lt_succ_self _) _
      rw [HW8.out]
      refine (hck W8 HG8.out.sh HG8.out.lt (rdP_own HO8.out)).mono ?_
      clear hck k0 k1 k2 k3 k4 k5 k6 k7 k8 kf0 kf1 kf2 kf3 kf4 kf5 kf6 kf7 kf8 klt
      rintro e w9 ⟨rfl, hb9⟩
      have HG9 := hid_of3 (HG8.out.on hb9)
      have HN9 := hid_of3 (HN8.out.on hb9)
      have HO9 := hid_of3 (own_on2 HO8.out hb9)
      clear hb9 HW8
      obtain ⟨r0, r1, r2, r3, r4, r5, r6, r7, r8, rf0, rf1, rf2, rf3, rf4, rf5, rf6, rf7, rf8, rlt⟩ := HG9.out.rr
      by_cases hcc : cc = 0
      case neg =>
        have he : errV cc = .iface 62 (.int .i64 (cc : Int)) := by unfold errV; rw [if_neg hcc]
        rw [he]
        have HR : Hid (r = (q00, cc)) := by unfold Hid; rw [HRC.out]; unfold finQ; rw [HCC.out, if_neg hcc]
        go_wp2_with fail
        refine bodyPost_ret (v := .tuple #[.agg #[.int .i64 0, .int .i64 0, .int .i64 0, .int .i64 0, .int .i64 0, .int .i64 0, .int .i64 0, .int .i64 0, .slice none 0 0], .iface 62 (.int .i64 (cc : Int))]) (by simp [results, Tryz.results24, go_sem, r0, r1, r2, r3, r4, r5, r6, r7, r8]) rfl (parP_err HR ?_ _ he)
        exact (by (repeat' (first | with_reducible apply Below.setCell | with_reducible apply Below.alloc | with_reducible apply Below.drew)) <;> first | exact HG9.out.bel | (simp; done) | (simp; omega))
      subst hcc
      rw [show errV 0 = .nilIface from rfl]
      have HR : Hid (r = (⟨q0.kind, q0.id, q0.a, q0.b, q0.c, q0.d, (PW : Int), (PH : Int), ps⟩, 0)) := by unfold Hid; rw [HRC.out]; unfold finQ; rw [HCC.out, if_pos rfl]
      obtain ⟨k0, k1, k2, k3, k4, k5, k6, k7, k8, kf0, kf1, kf2, kf3, kf4, kf5, kf6, kf7, kf8, klt⟩ := HN9.out
      go_wp2_with fail
      refine bodyPost_ret (v := .tuple #[.agg #[.int .i64 q0.kind, .int .i64 q0.id, .int .i64 q0.a, .int .i64 q0.b, .int .i64 q0.c, .int .i64 q0.d, .int .i64 (PW : Int), .int .i64 (PH : Int), .slice a5 n5 c5], .nilIface]) (by simp [results, Tryz.results24, go_sem, r0, r1, r2, r3, r4, r5, r6, r7, r8]) rfl (parP_ok HR ?_ ?_)
      · exact own_mono (ownsRow_setCell_below (ownsRow_setCell_below (ownsRow_setCell_below (ownsRow_setCell_below (ownsRow_setCell_below (ownsRow_setCell_below (ownsRow_setCell_below (ownsRow_setCell_below (ownsRow_setCell_below HO9.out (a := ⟨w.heap.size + 1, 0, none⟩) (show w.heap.size + 1 < bb + 1 by omega) _) (a := ⟨w.heap.size + 1, 1, none⟩) (show w.heap.size + 1 < bb + 1 by omega) _) (a := ⟨w.heap.size + 1, 2, none⟩) (show w.heap.size + 1 < bb + 1 by omega) _) (a := ⟨w.heap.size + 1, 3, none⟩) (show w.heap.size + 1 < bb + 1 by omega) _) (a := ⟨w.heap.size + 1, 4, none⟩) (show w.heap.size + 1 < bb + 1 by omega) _) (a := ⟨w.heap.size + 1, 5, none⟩) (show w.heap.size + 1 < bb + 1 by omega) _) (a := ⟨w.heap.size + 1, 6, none⟩) (show w.heap.size + 1 < bb + 1 by omega) _) (a := ⟨w.heap.size + 1, 7, none⟩) (show w.heap.size + 1 < bb + 1 by omega) _) (a := ⟨w.heap.size + 1, 8, none⟩) (show w.heap.size + 1 < bb + 1 by omega) _) (by omega)
      · exact (by (repeat' (first | with_reducible apply Below.setCell | with_reducible apply Below.alloc | with_reducible apply Below.drew)) <;> first | exact HG9.out.bel | (simp; done) | (simp; omega))
  go_wp2_with fail
  refine wp_region_held_drew (S := (fun W' => W'.cell? ⟨w.heap.size, 1, none⟩ = some (.string dt) ∧ W'.cell? ⟨sb, 0, none⟩ = some (.int .i64 (s.kind : Int)) ∧ W'.cell? ⟨sb, 1, none⟩ = some (.string s.bytes) ∧ W'.cell? ⟨sb, 2, none⟩ = some (.bool s.id) ∧ W'.cell? ⟨sb, 3, none⟩ = some (.int .i64 (s.nums : Int)) ∧ W'.cell? ⟨sb, 4, none⟩ = some (.int .i64 s.low) ∧ W'.cell? ⟨sb, 5, none⟩ = some (.int .i64 s.high) ∧ W'.cell? ⟨sb, 6, none⟩ = some (.bool s.pic))) (by kernel_rfl) ?_ (fun hHeld => ?_)
  · exact KEEP.out _ HGD.out
  refine wpAnyH_take (i := 0) (oi := ({ dst := some 41, op := Op.load 92 (Operand.tmp 4), type := 92, pos := "op.go:97", after := #[], guard := none } : Oper)) (v := ?_) rfl (by kernel_rfl) (by kernel_rfl) (by kernel_rfl) (fun _ _ _ h => h) (Or.inl ⟨by rfl, ?_⟩) (by assumption) ?_
  rotate_left
  · (intro w hSw; (try dsimp only at hSw); go_simp; try with_reducible rfl)
  try simp only [Act.put, List.setIfInBounds_toArray, List.set_cons_zero, List.set_cons_succ]
  refine wpAnyH_take (i := 1) (oi := ({ dst := some 42, op := Op.fieldAddr 37 (Operand.tmp 1) 1, type := 0, pos := "op.go:97", after := #[], guard := none } : Oper)) (v := ?_) rfl (by kernel_rfl) (by kernel_rfl) (by kernel_rfl) (fun _ _ _ h => h) (Or.inl ⟨by rfl, ?_⟩) (by assumption) ?_
  rotate_left
  · (intro w hSw; (try dsimp only at hSw); go_simp; try with_reducible rfl)
  try simp only [Act.put, List.setIfInBounds_toArray, List.set_cons_zero, List.set_cons_succ]
  refine wpAnyH_take (i := 2) (oi := ({ dst := some 43, op := Op.load 9 (Operand.tmp 42), type := 9, pos := "op.go:97", after := #[{ on := 1, ground := Ground.data }], guard := none } : Oper)) (v := ?_) rfl (by kernel_rfl) (by kernel_rfl) (by kernel_rfl) (fun _ _ _ h => h) (Or.inl ⟨by rfl, ?_⟩) (by assumption) ?_
  rotate_left
  · (intro w hSw; (try dsimp only at hSw); go_simp; try with_reducible rfl)
  try simp only [Act.put, List.setIfInBounds_toArray, List.set_cons_zero, List.set_cons_succ]
  refine wpAnyH_take (i := 3) (oi := ({ dst := some 44, op := Op.move (Operand.tmp 6), type := 3, pos := "op.go:97", after := #[], guard := none } : Oper)) (v := ?_) rfl (by kernel_rfl) (by kernel_rfl) (by kernel_rfl) (fun _ _ _ h => h) (Or.inl ⟨by rfl, ?_⟩) (by assumption) ?_
  rotate_left
  · (intro w hSw; (try dsimp only at hSw); go_simp; try with_reducible rfl)
  try simp only [Act.put, List.setIfInBounds_toArray, List.set_cons_zero, List.set_cons_succ]
  refine wpAnyH_take (i := 4) (oi := ({ dst := some 45, op := Op.slice 9 (Operand.tmp 43) none (some (Operand.tmp 44)) none, type := 9, pos := "op.go:97", after := #[{ on := 2, ground := Ground.data }, { on := 3, ground := Ground.data }], guard := none } : Oper)) (v := ?_) rfl (by kernel_rfl) (by kernel_rfl) (by kernel_rfl) (fun _ _ _ h => h) (Or.inl ⟨by rfl, ?_⟩) (by assumption) ?_
  rotate_left
  · (intro w hSw; (try dsimp only at hSw); go_simp; try with_reducible rfl)
  try simp only [Act.put, List.setIfInBounds_toArray, List.set_cons_zero, List.set_cons_succ]
  refine wpAnyH_ready (rs := [5, 6]) (by kernel_rfl) (by simp) ?_
  refine AllReadyH.cons (o := ({ dst := some 46, op := Op.call { callee := Callee.value (Operand.func 47), args := #[Operand.tmp 41, Operand.tmp 45], argTypes := #[92, 9] }, type := 48, pos := "op.go:97", after := #[{ on := 0, ground := Ground.data }, { on := 4, ground := Ground.data }], guard := none } : Oper)) rfl (fun K_ hK => ?_) (AllReadyH.cons (o := ({ dst := some 7, op := Op.alloc 48, type := 0, pos := "op.go:97", after := #[], guard := none } : Oper)) rfl (fun K_ hK => ?_) AllReadyH.nil)
  · go_simp
    refine (HRD.out _).mono ?_
    rintro e w4 ⟨rfl, hb4⟩
    have HG4 := hid_of3 (HGD.out.on hb4)
    try dsimp only
    refine hK.out _ _ ?_ (fun hHeld => ?_)
    · exact KEEP.out _ HG4.out
    clear hK K_
    try simp only [Act.put, List.setIfInBounds_toArray, List.set_cons_zero, List.set_cons_succ]
    refine wpAnyH_ready (rs := [6]) (by kernel_rfl) (by simp) ?_
    refine AllReadyH.cons (o := ({ dst := some 7, op := Op.alloc 48, type := 0, pos := "op.go:97", after := #[], guard := none } : Oper)) rfl (fun K_ hK => ?_) AllReadyH.nil
    go_simp
    refine hK.out _ _ ?_ (fun hHeld => ?_)
    · exact KEEP.out _ (HG4.out.on ((Below.refl _ _).alloc (Nat.le_refl _) _))
    clear hK K_
    try simp only [Act.put, List.setIfInBounds_toArray, List.set_cons_zero, List.set_cons_succ]
    refine wpAnyH_ready (rs := [7]) (by kernel_rfl) (by simp) ?_
    refine AllReadyH.cons (o := ({ dst := none, op := Op.store 48 (Operand.tmp 7) (Operand.tmp 46), type := 0, pos := "op.go:97", after := #[{ on := 6, ground := Ground.data }, { on := 5, ground := Ground.data }, { on := 5, ground := Ground.chain }, { on := 0, ground := Ground.phase }, { on := 1, ground := Ground.phase }, { on := 2, ground := Ground.phase }, { on := 3, ground := Ground.phase }, { on := 4, ground := Ground.phase }, { on := 5, ground := Ground.phase }, { on := 6, ground := Ground.phase }], guard := none } : Oper)) rfl (fun K_ hK => ?_) AllReadyH.nil
    go_simp
    refine hK.out _ _ ?_ (fun hHeld => ?_)
    · exact KEEP.out _ (HG4.out.on ((Below.refl _ _).alloc (Nat.le_refl _) _))
    clear hK K_
    try simp only [Act.put, List.setIfInBounds_toArray, List.set_cons_zero, List.set_cons_succ]
    refine wpAnyH_done (by kernel_rfl) ?_ _
    obtain ⟨Wt, HWT⟩ : ∃ W, Hid (w4.alloc (.cells #[.int .i64 q0.kind, .int .i64 q0.id, .int .i64 q0.a, .int .i64 q0.b, .int .i64 q0.c, .int .i64 q0.d, .int .i64 q0.pw, .int .i64 q0.ph, .slice none 0 0] 48) = W) := ⟨_, (rfl : _ = _)⟩
    have HGT := hid_of3 (HG4.out.on (show Below w4.heap.size w4 (w4.alloc (.cells #[.int .i64 q0.kind, .int .i64 q0.id, .int .i64 q0.a, .int .i64 q0.b, .int .i64 q0.c, .int .i64 q0.d, .int .i64 q0.pw, .int .i64 q0.ph, .slice none 0 0] 48)) from (Below.refl _ _).alloc (Nat.le_refl _) _))
    have HNT := hid_of3 (nine_start w4 (.int .i64 q0.kind) (.int .i64 q0.id) (.int .i64 q0.a) (.int .i64 q0.b) (.int .i64 q0.c) (.int .i64 q0.d) (.int .i64 q0.pw) (.int .i64 q0.ph) (.slice none 0 0) 48 w4.heap.size rfl)
    have hbb : w3.heap.size ≤ w4.heap.size := hb4.size
    obtain ⟨bb, HBB⟩ : ∃ b, Hid (w4.heap.size = b) := ⟨_, (rfl : _ = _)⟩
    rw [HWT.out] at HGT HNT
    rw [HBB.out] at HNT hbb
    rw [HWT.out, HBB.out]
    clear HWT HBB HG4 HGA HZA HGD
    cases fpc with
    | true =>
      obtain ⟨⟨t0, t1, -, -, -⟩, -, ⟨-, -, -, -, -, -, s6, -, -, -, -, -, -, -, -⟩, -, -, -⟩ := HGT.out
      rw [HFPC.out] at s6
      have HDX := hid_of3 (Lib.extract_to_end dt N)
      obtain ⟨z, HZP⟩ : ∃ z, Hid (parseL (dt.data.toList.drop N) = z) := ⟨_, (rfl : _ = _)⟩
      obtain ⟨PW, PH, ps, pc⟩ := z
      have HZX : Hid (parseL (dt.extract N dt.size).data.toList = (PW, PH, ps, pc)) := by unfold Hid; rw [HDX.out]; exact HZP.out
      go_wp2_with fail
      refine (parseO_any (dt.extract N dt.size) _ (by rw [ByteArray.size_extract]; omega) PW PH pc ps HZX).mono ?_
      rintro e w5 ⟨v5, rfl, ho5, hb5⟩
      have HO5 := hid_of3 ho5
      have HG5 := hid_of3 (HGT.out.on hb5)
      have HN5 := hid_of3 (HNT.out.on hb5)
      have hbtW : bb < Wt.heap.size := HNT.out.lt
      have hbt5 : bb < w5.heap.size := HN5.out.lt
      have hwz5 := HG5.out.bel.size
      obtain ⟨a5, c5, hv5⟩ := own_any ho5
      obtain ⟨n5, HL5⟩ : ∃ n, Hid (ps.length = n) := ⟨_, (rfl : _ = _)⟩
      rw [HL5.out] at hv5
      subst hv5
      clear ho5 hb5 t0 t1 s6
      obtain ⟨r0, r1, r2, r3, r4, r5, r6, r7, r8, rf0, rf1, rf2, rf3, rf4, rf5, rf6, rf7, rf8, rlt⟩ := HG5.out.rr
      by_cases hpc : pc = 0
      case neg =>
        have he : errV pc = .iface 62 (.int .i64 (pc : Int)) := by unfold errV; rw [if_neg hpc]
        rw [he]
        have HR : Hid (r = (q00, pc)) := by unfold Hid; rw [HRF.out, if_pos HFPC.out, HZP.out, if_neg hpc]
        go_wp2_with fail
        refine bodyPost_ret (v := .tuple #[.agg #[.int .i64 0, .int .i64 0, .int .i64 0, .int .i64 0, .int .i64 0, .int .i64 0, .int .i64 0, .int .i64 0, .slice none 0 0], .iface 62 (.int .i64 (pc : Int))]) (by simp [results, Tryz.results24, go_sem, r0, r1, r2, r3, r4, r5, r6, r7, r8, rlt]) rfl (parP_err HR ?_ _ he)
        exact (by (repeat' (first | with_reducible apply Below.setCell | with_reducible apply Below.alloc | with_reducible apply Below.drew)) <;> first | exact HG5.out.bel | (simp; done) | (simp; omega))
      subst hpc
      rw [show errV 0 = .nilIface from rfl]
      obtain ⟨k0, k1, k2, k3, k4, k5, k6, k7, k8, kf0, kf1, kf2, kf3, kf4, kf5, kf6, kf7, kf8, klt⟩ := HN5.out
      clear r0 r1 r2 r3 r4 r5 r6 r7 r8 rf0 rf1 rf2 rf3 rf4 rf5 rf6 rf7 rf8 rlt
      go_wp2_with fail
      obtain ⟨cc, HCC⟩ : ∃ c, Hid (opC ⟨q0.kind, q0.id, q0.a, q0.b, q0.c, q0.d, (PW : Int), (PH : Int), ps⟩ = c) := ⟨_, (rfl : _ = _)⟩
      have HRC : Hid (r = finQ ⟨q0.kind, q0.id, q0.a, q0.b, q0.c, q0.d, (PW : Int), (PH : Int), ps⟩) := by unfold Hid; rw [HRF.out, if_pos HFPC.out, HZP.out, if_pos rfl]
      have hpl : ps.length ≤ 1000000000 := Nat.le_trans (parse_lenP _ _ _ _ _ HZP.out) (by omega)
      have hck := fun X (hS : Shapes X) (hl : 0 < X.heap.size) (hU : RdP X (.slice a5 n5 c5) ps) => opCheck_any ⟨q0.kind, q0.id, q0.a, q0.b, q0.c, q0.d, (PW : Int), (PH : Int), ps⟩ (.slice a5 n5 c5) X hS hl hU hpl cc HCC
      unfold opV at hck
      obtain ⟨W8, HW8⟩ : ∃ W, Hid ((((w5.setCell ⟨bb, 6, none⟩ (.int .i64 (PW : Int))).setCell ⟨bb, 7, none⟩ (.int .i64 (PH : Int))).setCell ⟨bb, 8, none⟩ (.slice a5 n5 c5)).alloc (.cells #[.int .i64 (PW : Int), .int .i64 (PH : Int), .slice a5 n5 c5] 46) = W) := ⟨_, (rfl : _ = _)⟩
      have hbl8 : Below bb w5 W8 := by
        rw [← HW8.out]
        exact (((((Below.refl bb w5).setCell (show bb ≤ (⟨bb, 6, none⟩ : Addr).block from Nat.le_refl _) _).setCell (show bb ≤ (⟨bb, 7, none⟩ : Addr).block from Nat.le_refl _) _).setCell (show bb ≤ (⟨bb, 8, none⟩ : Addr).block from Nat.le_refl _) _)).alloc (by simp; omega) _
      have HG8 := hid_of3 (HG5.out.onB hbl8 (by omega) (by omega) (by omega) (by omega))
      have HN8 := hid_of3 (show Nine W8 bb (.int .i64 q0.kind) (.int .i64 q0.id) (.int .i64 q0.a) (.int .i64 q0.b) (.int .i64 q0.c) (.int .i64 q0.d) (.int .i64 (PW : Int)) (.int .i64 (PH : Int)) (.slice a5 n5 c5) by rw [← HW8.out]; exact (nine_pic HN5.out _ _ _).alloc _)
      have HO8 : Hid (W8.ownsRow (bb + 1) 52 2 (.slice a5 n5 c5) ps.length (pixCells ps)) := by
        rw [← HW8.out]
        refine own_al ?_ _
        exact ownsRow_setCell_below (ownsRow_setCell_below (ownsRow_setCell_below (own_mono HO5.out (show bb + 1 ≤ _ by omega)) (a := ⟨bb, 6, none⟩) (Nat.lt_succ_self _) _) (a := ⟨bb, 7, none⟩) (Nat.lt_succ_self _) _) (a := ⟨bb, 8, none⟩) (Nat.lt_succ_self _) _
      rw [HW8.out]
      refine (hck W8 HG8.out.sh HG8.out.lt (rdP_own HO8.out)).mono ?_
      clear hck k0 k1 k2 k3 k4 k5 k6 k7 k8 kf0 kf1 kf2 kf3 kf4 kf5 kf6 kf7 kf8 klt
      rintro e w9 ⟨rfl, hb9⟩
      have HG9 := hid_of3 (HG8.out.on hb9)
      have HN9 := hid_of3 (HN8.out.on hb9)
      have HO9 := hid_of3 (own_on2 HO8.out hb9)
      clear hb9 HW8
      obtain ⟨r0, r1, r2, r3, r4, r5, r6, r7, r8, rf0, rf1, rf2, rf3, rf4, rf5, rf6, rf7, rf8, rlt⟩ := HG9.out.rr
      by_cases hcc : cc = 0
      case neg =>
        have he : errV cc = .iface 62 (.int .i64 (cc : Int)) := by unfold errV; rw [if_neg hcc]
        rw [he]
        have HR : Hid (r = (q00, cc)) := by unfold Hid; rw [HRC.out]; unfold finQ; rw [HCC.out, if_neg hcc]
        go_wp2_with fail
        refine bodyPost_ret (v := .tuple #[.agg #[.int .i64 0, .int .i64 0, .int .i64 0, .int .i64 0, .int .i64 0, .int .i64 0, .int .i64 0, .int .i64 0, .slice none 0 0], .iface 62 (.int .i64 (cc : Int))]) (by simp [results, Tryz.results24, go_sem, r0, r1, r2, r3, r4, r5, r6, r7, r8]) rfl (parP_err HR ?_ _ he)
        exact (by (repeat' (first | with_reducible apply Below.setCell | with_reducible apply Below.alloc | with_reducible apply Below.drew)) <;> first | exact HG9.out.bel | (simp; done) | (simp; omega))
      subst hcc
      rw [show errV 0 = .nilIface from rfl]
      have HR : Hid (r = (⟨q0.kind, q0.id, q0.a, q0.b, q0.c, q0.d, (PW : Int), (PH : Int), ps⟩, 0)) := by unfold Hid; rw [HRC.out]; unfold finQ; rw [HCC.out, if_pos rfl]
      obtain ⟨k0, k1, k2, k3, k4, k5, k6, k7, k8, kf0, kf1, kf2, kf3, kf4, kf5, kf6, kf7, kf8, klt⟩ := HN9.out
      go_wp2_with fail
      refine bodyPost_ret (v := .tuple #[.agg #[.int .i64 q0.kind, .int .i64 q0.id, .int .i64 q0.a, .int .i64 q0.b, .int .i64 q0.c, .int .i64 q0.d, .int .i64 (PW : Int), .int .i64 (PH : Int), .slice a5 n5 c5], .nilIface]) (by simp [results, Tryz.results24, go_sem, r0, r1, r2, r3, r4, r5, r6, r7, r8]) rfl (parP_ok HR ?_ ?_)
      · exact own_mono (ownsRow_setCell_below (ownsRow_setCell_below (ownsRow_setCell_below (ownsRow_setCell_below (ownsRow_setCell_below (ownsRow_setCell_below (ownsRow_setCell_below (ownsRow_setCell_below (ownsRow_setCell_below HO9.out (a := ⟨w.heap.size + 1, 0, none⟩) (show w.heap.size + 1 < bb + 1 by omega) _) (a := ⟨w.heap.size + 1, 1, none⟩) (show w.heap.size + 1 < bb + 1 by omega) _) (a := ⟨w.heap.size + 1, 2, none⟩) (show w.heap.size + 1 < bb + 1 by omega) _) (a := ⟨w.heap.size + 1, 3, none⟩) (show w.heap.size + 1 < bb + 1 by omega) _) (a := ⟨w.heap.size + 1, 4, none⟩) (show w.heap.size + 1 < bb + 1 by omega) _) (a := ⟨w.heap.size + 1, 5, none⟩) (show w.heap.size + 1 < bb + 1 by omega) _) (a := ⟨w.heap.size + 1, 6, none⟩) (show w.heap.size + 1 < bb + 1 by omega) _) (a := ⟨w.heap.size + 1, 7, none⟩) (show w.heap.size + 1 < bb + 1 by omega) _) (a := ⟨w.heap.size + 1, 8, none⟩) (show w.heap.size + 1 < bb + 1 by omega) _) (by omega)
      · exact (by (repeat' (first | with_reducible apply Below.setCell | with_reducible apply Below.alloc | with_reducible apply Below.drew)) <;> first | exact HG9.out.bel | (simp; done) | (simp; omega))
    | false =>
      obtain ⟨-, -, ⟨-, -, -, -, -, -, s6, -, -, -, -, -, -, -, -⟩, -, -, -⟩ := HGT.out
      rw [HFPC.out] at s6
      have hbtW : bb < Wt.heap.size := HNT.out.lt
      obtain ⟨k0, k1, k2, k3, k4, k5, k6, k7, k8, kf0, kf1, kf2, kf3, kf4, kf5, kf6, kf7, kf8, klt⟩ := HNT.out
      go_wp2_with fail
      obtain ⟨cc, HCC⟩ : ∃ c, Hid (opC q0 = c) := ⟨_, (rfl : _ = _)⟩
      have HRC : Hid (r = finQ q0) := by unfold Hid; rw [HRF.out, if_neg (by rw [HFPC.out]; decide)]
      have hnil : Hid (RdP Wt (.slice none 0 0) q0.ps) := by unfold Hid; rw [HQP.out]; exact rdP_nil _
      have hck := opCheck_any q0 (.slice none 0 0) Wt HGT.out.sh HGT.out.lt hnil (by rw [HQP.out]; simp) cc HCC
      unfold opV at hck
      refine hck.mono ?_
      clear hck k0 k1 k2 k3 k4 k5 k6 k7 k8 kf0 kf1 kf2 kf3 kf4 kf5 kf6 kf7 kf8 klt s6
      rintro e w9 ⟨rfl, hb9⟩
      have HG9 := hid_of3 (HGT.out.on hb9)
      have HN9 := hid_of3 (HNT.out.on hb9)
      clear hb9
      obtain ⟨r0, r1, r2, r3, r4, r5, r6, r7, r8, rf0, rf1, rf2, rf3, rf4, rf5, rf6, rf7, rf8, rlt⟩ := HG9.out.rr
      by_cases hcc : cc = 0
      case neg =>
        have he : errV cc = .iface 62 (.int .i64 (cc : Int)) := by unfold errV; rw [if_neg hcc]
        rw [he]
        have HR : Hid (r = (q00, cc)) := by unfold Hid; rw [HRC.out]; unfold finQ; rw [HCC.out, if_neg hcc]
        go_wp2_with fail
        refine bodyPost_ret (v := .tuple #[.agg #[.int .i64 0, .int .i64 0, .int .i64 0, .int .i64 0, .int .i64 0, .int .i64 0, .int .i64 0, .int .i64 0, .slice none 0 0], .iface 62 (.int .i64 (cc : Int))]) (by simp [results, Tryz.results24, go_sem, r0, r1, r2, r3, r4, r5, r6, r7, r8]) rfl (parP_err HR ?_ _ he)
        exact (by (repeat' (first | with_reducible apply Below.setCell | with_reducible apply Below.alloc | with_reducible apply Below.drew)) <;> first | exact HG9.out.bel | (simp; done) | (simp; omega))
      subst hcc
      rw [show errV 0 = .nilIface from rfl]
      have HR : Hid (r = (q0, 0)) := by unfold Hid; rw [HRC.out]; unfold finQ; rw [HCC.out, if_pos rfl]
      obtain ⟨k0, k1, k2, k3, k4, k5, k6, k7, k8, kf0, kf1, kf2, kf3, kf4, kf5, kf6, kf7, kf8, klt⟩ := HN9.out
      go_wp2_with fail
      refine bodyPost_ret (v := .tuple #[.agg #[.int .i64 q0.kind, .int .i64 q0.id, .int .i64 q0.a, .int .i64 q0.b, .int .i64 q0.c, .int .i64 q0.d, .int .i64 q0.pw, .int .i64 q0.ph, .slice none 0 0], .nilIface]) (by simp [results, Tryz.results24, go_sem, r0, r1, r2, r3, r4, r5, r6, r7, r8]) rfl (parP_ok HR ?_ ?_)
      · rw [HQP.out]; exact World.ownsRow_nil _ _ _ _
      · exact (by (repeat' (first | with_reducible apply Below.setCell | with_reducible apply Below.alloc | with_reducible apply Below.drew)) <;> first | exact HG9.out.bel | (simp; done) | (simp; omega))
  · go_simp
    refine hK.out _ _ ?_ (fun hHeld => ?_)
    · exact KEEP.out _ HGA.out
    clear hK K_
    try simp only [Act.put, List.setIfInBounds_toArray, List.set_cons_zero, List.set_cons_succ]
    refine wpAnyH_ready (rs := [5]) (by kernel_rfl) (by simp) ?_
    refine AllReadyH.cons (o := ({ dst := some 46, op := Op.call { callee := Callee.value (Operand.func 47), args := #[Operand.tmp 41, Operand.tmp 45], argTypes := #[92, 9] }, type := 48, pos := "op.go:97", after := #[{ on := 0, ground := Ground.data }, { on := 4, ground := Ground.data }], guard := none } : Oper)) rfl (fun K_ hK => ?_) AllReadyH.nil
    go_simp
    refine (HRD.out _).mono ?_
    rintro e w4 ⟨rfl, hb4⟩
    have HG4 := hid_of3 (HGA.out.on hb4)
    have HZ4 := hid_of3 (HZA.out.on hb4)
    have hsz4 : w3.heap.size ≤ w4.heap.size := by have h4 := hb4.size; simp at h4; omega
    try dsimp only
    refine hK.out _ _ ?_ (fun hHeld => ?_)
    · exact KEEP.out _ HG4.out
    clear hK K_
    try simp only [Act.put, List.setIfInBounds_toArray, List.set_cons_zero, List.set_cons_succ]
    obtain ⟨z0, z1, z2, z3, z4, z5, z6, z7, z8, zf0, zf1, zf2, zf3, zf4, zf5, zf6, zf7, zf8, zlt⟩ := HZ4.out
    refine wpAnyH_ready (rs := [7]) (by kernel_rfl) (by simp) ?_
    refine AllReadyH.cons (o := ({ dst := none, op := Op.store 48 (Operand.tmp 7) (Operand.tmp 46), type := 0, pos := "op.go:97", after := #[{ on := 6, ground := Ground.data }, { on := 5, ground := Ground.data }, { on := 5, ground := Ground.chain }, { on := 0, ground := Ground.phase }, { on := 1, ground := Ground.phase }, { on := 2, ground := Ground.phase }, { on := 3, ground := Ground.phase }, { on := 4, ground := Ground.phase }, { on := 5, ground := Ground.phase }, { on := 6, ground := Ground.phase }], guard := none } : Oper)) rfl (fun K_ hK => ?_) AllReadyH.nil
    go_simp
    refine hK.out _ _ ?_ (fun hHeld => ?_)
    · exact KEEP.out _ (HG4.out.onB (B := w3.heap.size) (by (repeat (refine Below.setCell ?_ (by simp) _)); exact Below.refl _ _) hsz4 hw3 hsb3 hgl3)
    clear hK K_
    try simp only [Act.put, List.setIfInBounds_toArray, List.set_cons_zero, List.set_cons_succ]
    refine wpAnyH_done (by kernel_rfl) ?_ _
    obtain ⟨Wt, HWT⟩ : ∃ W, Hid ((((((((((w4.setCell ⟨w3.heap.size, 0, none⟩ (.int .i64 q0.kind)).setCell ⟨w3.heap.size, 1, none⟩ (.int .i64 q0.id)).setCell ⟨w3.heap.size, 2, none⟩ (.int .i64 q0.a)).setCell ⟨w3.heap.size, 3, none⟩ (.int .i64 q0.b)).setCell ⟨w3.heap.size, 4, none⟩ (.int .i64 q0.c)).setCell ⟨w3.heap.size, 5, none⟩ (.int .i64 q0.d)).setCell ⟨w3.heap.size, 6, none⟩ (.int .i64 q0.pw)).setCell ⟨w3.heap.size, 7, none⟩ (.int .i64 q0.ph)).setCell ⟨w3.heap.size, 8, none⟩ (.slice none 0 0)) = W) := ⟨_, (rfl : _ = _)⟩
    have HGT : Hid (Gpa w nm dt sb s Wt) := by
      rw [← HWT.out]
      exact HG4.out.onB (B := w3.heap.size) (by (repeat (refine Below.setCell ?_ (by simp) _)); exact Below.refl _ _) hsz4 hw3 hsb3 hgl3
    have HNT : Hid (Nine Wt w3.heap.size (.int .i64 q0.kind) (.int .i64 q0.id) (.int .i64 q0.a) (.int .i64 q0.b) (.int .i64 q0.c) (.int .i64 q0.d) (.int .i64 q0.pw) (.int .i64 q0.ph) (.slice none 0 0)) := by rw [← HWT.out]; exact nine_all HZ4.out _ _ _ _ _ _ _ _ _
    obtain ⟨bb, HBB⟩ : ∃ b, Hid (w3.heap.size = b) := ⟨_, (rfl : _ = _)⟩
    have hbb : w3.heap.size ≤ bb := Nat.le_of_eq HBB.out
    rw [HBB.out] at HNT
    rw [HWT.out, HBB.out]
    clear HWT HBB HG4 HGA HZA HGD HZ4 z0 z1 z2 z3 z4 z5 z6 z7 z8 zf0 zf1 zf2 zf3 zf4 zf5 zf6 zf7 zf8 zlt
    cases fpc with
    | true =>
      obtain ⟨⟨t0, t1, -, -, -⟩, -, ⟨-, -, -, -, -, -, s6, -, -, -, -, -, -, -, -⟩, -, -, -⟩ := HGT.out
      rw [HFPC.out] at s6
      have HDX := hid_of3 (Lib.extract_to_end dt N)
      obtain ⟨z, HZP⟩ : ∃ z, Hid (parseL (dt.data.toList.drop N) = z) := ⟨_, (rfl : _ = _)⟩
      obtain ⟨PW, PH, ps, pc⟩ := z
      have HZX : Hid (parseL (dt.extract N dt.size).data.toList = (PW, PH, ps, pc)) := by unfold Hid; rw [HDX.out]; exact HZP.out
      go_wp2_with fail
      refine (parseO_any (dt.extract N dt.size) _ (by rw [ByteArray.size_extract]; omega) PW PH pc ps HZX).mono ?_
      rintro e w5 ⟨v5, rfl, ho5, hb5⟩
      have HO5 := hid_of3 ho5
      have HG5 := hid_of3 (HGT.out.on hb5)
      have HN5 := hid_of3 (HNT.out.on hb5)
      have hbtW : bb < Wt.heap.size := HNT.out.lt
      have hbt5 : bb < w5.heap.size := HN5.out.lt
      have hwz5 := HG5.out.bel.size
      obtain ⟨a5, c5, hv5⟩ := own_any ho5
      obtain ⟨n5, HL5⟩ : ∃ n, Hid (ps.length = n) := ⟨_, (rfl : _ = _)⟩
      rw [HL5.out] at hv5
      subst hv5
      clear ho5 hb5 t0 t1 s6
      obtain ⟨r0, r1, r2, r3, r4, r5, r6, r7, r8, rf0, rf1, rf2, rf3, rf4, rf5, rf6, rf7, rf8, rlt⟩ := HG5.out.rr
      by_cases hpc : pc = 0
      case neg =>
        have he : errV pc = .iface 62 (.int .i64 (pc : Int)) := by unfold errV; rw [if_neg hpc]
        rw [he]
        have HR : Hid (r = (q00, pc)) := by unfold Hid; rw [HRF.out, if_pos HFPC.out, HZP.out, if_neg hpc]
        go_wp2_with fail
        refine bodyPost_ret (v := .tuple #[.agg #[.int .i64 0, .int .i64 0, .int .i64 0, .int .i64 0, .int .i64 0, .int .i64 0, .int .i64 0, .int .i64 0, .slice none 0 0], .iface 62 (.int .i64 (pc : Int))]) (by simp [results, Tryz.results24, go_sem, r0, r1, r2, r3, r4, r5, r6, r7, r8, rlt]) rfl (parP_err HR ?_ _ he)
        exact (by (repeat' (first | with_reducible apply Below.setCell | with_reducible apply Below.alloc | with_reducible apply Below.drew)) <;> first | exact HG5.out.bel | (simp; done) | (simp; omega))
      subst hpc
      rw [show errV 0 = .nilIface from rfl]
      obtain ⟨k0, k1, k2, k3, k4, k5, k6, k7, k8, kf0, kf1, kf2, kf3, kf4, kf5, kf6, kf7, kf8, klt⟩ := HN5.out
      clear r0 r1 r2 r3 r4 r5 r6 r7 r8 rf0 rf1 rf2 rf3 rf4 rf5 rf6 rf7 rf8 rlt
      go_wp2_with fail
      obtain ⟨cc, HCC⟩ : ∃ c, Hid (opC ⟨q0.kind, q0.id, q0.a, q0.b, q0.c, q0.d, (PW : Int), (PH : Int), ps⟩ = c) := ⟨_, (rfl : _ = _)⟩
      have HRC : Hid (r = finQ ⟨q0.kind, q0.id, q0.a, q0.b, q0.c, q0.d, (PW : Int), (PH : Int), ps⟩) := by unfold Hid; rw [HRF.out, if_pos HFPC.out, HZP.out, if_pos rfl]
      have hpl : ps.length ≤ 1000000000 := Nat.le_trans (parse_lenP _ _ _ _ _ HZP.out) (by omega)
      have hck := fun X (hS : Shapes X) (hl : 0 < X.heap.size) (hU : RdP X (.slice a5 n5 c5) ps) => opCheck_any ⟨q0.kind, q0.id, q0.a, q0.b, q0.c, q0.d, (PW : Int), (PH : Int), ps⟩ (.slice a5 n5 c5) X hS hl hU hpl cc HCC
      unfold opV at hck
      obtain ⟨W8, HW8⟩ : ∃ W, Hid ((((w5.setCell ⟨bb, 6, none⟩ (.int .i64 (PW : Int))).setCell ⟨bb, 7, none⟩ (.int .i64 (PH : Int))).setCell ⟨bb, 8, none⟩ (.slice a5 n5 c5)).alloc (.cells #[.int .i64 (PW : Int), .int .i64 (PH : Int), .slice a5 n5 c5] 46) = W) := ⟨_, (rfl : _ = _)⟩
      have hbl8 : Below bb w5 W8 := by
        rw [← HW8.out]
        exact (((((Below.refl bb w5).setCell (show bb ≤ (⟨bb, 6, none⟩ : Addr).block from Nat.le_refl _) _).setCell (show bb ≤ (⟨bb, 7, none⟩ : Addr).block from Nat.le_refl _) _).setCell (show bb ≤ (⟨bb, 8, none⟩ : Addr).block from Nat.le_refl _) _)).alloc (by simp; omega) _
      have HG8 := hid_of3 (HG5.out.onB hbl8 (by omega) (by omega) (by omega) (by omega))
      have HN8 := hid_of3 (show Nine W8 bb (.int .i64 q0.kind) (.int .i64 q0.id) (.int .i64 q0.a) (.int .i64 q0.b) (.int .i64 q0.c) (.int .i64 q0.d) (.int .i64 (PW : Int)) (.int .i64 (PH : Int)) (.slice a5 n5 c5) by rw [← HW8.out]; exact (nine_pic HN5.out _ _ _).alloc _)
      have HO8 : Hid (W8.ownsRow (bb + 1) 52 2 (.slice a5 n5 c5) ps.length (pixCells ps)) := by
        rw [← HW8.out]
        refine own_al ?_ _
        exact ownsRow_setCell_below (ownsRow_setCell_below (ownsRow_setCell_below (own_mono HO5.out (show bb + 1 ≤ _ by omega)) (a := ⟨bb, 6, none⟩) (Nat.lt_succ_self _) _) (a := ⟨bb, 7, none⟩) (Nat.lt_succ_self _) _) (a := ⟨bb, 8, none⟩) (Nat.lt_succ_self _) _
      rw [HW8.out]
      refine (hck W8 HG8.out.sh HG8.out.lt (rdP_own HO8.out)).mono ?_
      clear hck k0 k1 k2 k3 k4 k5 k6 k7 k8 kf0 kf1 kf2 kf3 kf4 kf5 kf6 kf7 kf8 klt
      rintro e w9 ⟨rfl, hb9⟩
      have HG9 := hid_of3 (HG8.out.on hb9)
      have HN9 := hid_of3 (HN8.out.on hb9)
      have HO9 := hid_of3 (own_on2 HO8.out hb9)
      clear hb9 HW8
      obtain ⟨r0, r1, r2, r3, r4, r5, r6, r7, r8, rf0, rf1, rf2, rf3, rf4, rf5, rf6, rf7, rf8, rlt⟩ := HG9.out.rr
      by_cases hcc : cc = 0
      case neg =>
        have he : errV cc = .iface 62 (.int .i64 (cc : Int)) := by unfold errV; rw [if_neg hcc]
        rw [he]
        have HR : Hid (r = (q00, cc)) := by unfold Hid; rw [HRC.out]; unfold finQ; rw [HCC.out, if_neg hcc]
        go_wp2_with fail
        refine bodyPost_ret (v := .tuple #[.agg #[.int .i64 0, .int .i64 0, .int .i64 0, .int .i64 0, .int .i64 0, .int .i64 0, .int .i64 0, .int .i64 0, .slice none 0 0], .iface 62 (.int .i64 (cc : Int))]) (by simp [results, Tryz.results24, go_sem, r0, r1, r2, r3, r4, r5, r6, r7, r8]) rfl (parP_err HR ?_ _ he)
        exact (by (repeat' (first | with_reducible apply Below.setCell | with_reducible apply Below.alloc | with_reducible apply Below.drew)) <;> first | exact HG9.out.bel | (simp; done) | (simp; omega))
      subst hcc
      rw [show errV 0 = .nilIface from rfl]
      have HR : Hid (r = (⟨q0.kind, q0.id, q0.a, q0.b, q0.c, q0.d, (PW : Int), (PH : Int), ps⟩, 0)) := by unfold Hid; rw [HRC.out]; unfold finQ; rw [HCC.out, if_pos rfl]
      obtain ⟨k0, k1, k2, k3, k4, k5, k6, k7, k8, kf0, kf1, kf2, kf3, kf4, kf5, kf6, kf7, kf8, klt⟩ := HN9.out
      go_wp2_with fail
      refine bodyPost_ret (v := .tuple #[.agg #[.int .i64 q0.kind, .int .i64 q0.id, .int .i64 q0.a, .int .i64 q0.b, .int .i64 q0.c, .int .i64 q0.d, .int .i64 (PW : Int), .int .i64 (PH : Int), .slice a5 n5 c5], .nilIface]) (by simp [results, Tryz.results24, go_sem, r0, r1, r2, r3, r4, r5, r6, r7, r8]) rfl (parP_ok HR ?_ ?_)
      · exact own_mono (ownsRow_setCell_below (ownsRow_setCell_below (ownsRow_setCell_below (ownsRow_setCell_below (ownsRow_setCell_below (ownsRow_setCell_below (ownsRow_setCell_below (ownsRow_setCell_below (ownsRow_setCell_below HO9.out (a := ⟨w.heap.size + 1, 0, none⟩) (show w.heap.size + 1 < bb + 1 by omega) _) (a := ⟨w.heap.size + 1, 1, none⟩) (show w.heap.size + 1 < bb + 1 by omega) _) (a := ⟨w.heap.size + 1, 2, none⟩) (show w.heap.size + 1 < bb + 1 by omega) _) (a := ⟨w.heap.size + 1, 3, none⟩) (show w.heap.size + 1 < bb + 1 by omega) _) (a := ⟨w.heap.size + 1, 4, none⟩) (show w.heap.size + 1 < bb + 1 by omega) _) (a := ⟨w.heap.size + 1, 5, none⟩) (show w.heap.size + 1 < bb + 1 by omega) _) (a := ⟨w.heap.size + 1, 6, none⟩) (show w.heap.size + 1 < bb + 1 by omega) _) (a := ⟨w.heap.size + 1, 7, none⟩) (show w.heap.size + 1 < bb + 1 by omega) _) (a := ⟨w.heap.size + 1, 8, none⟩) (show w.heap.size + 1 < bb + 1 by omega) _) (by omega)
      · exact (by (repeat' (first | with_reducible apply Below.setCell | with_reducible apply Below.alloc | with_reducible apply Below.drew)) <;> first | exact HG9.out.bel | (simp; done) | (simp; omega))
    | false =>
      obtain ⟨-, -, ⟨-, -, -, -, -, -, s6, -, -, -, -, -, -, -, -⟩, -, -, -⟩ := HGT.out
      rw [HFPC.out] at s6
      have hbtW : bb < Wt.heap.size := HNT.out.lt
      obtain ⟨k0, k1, k2, k3, k4, k5, k6, k7, k8, kf0, kf1, kf2, kf3, kf4, kf5, kf6, kf7, kf8, klt⟩ := HNT.out
      go_wp2_with fail
      obtain ⟨cc, HCC⟩ : ∃ c, Hid (opC q0 = c) := ⟨_, (rfl : _ = _)⟩
      have HRC : Hid (r = finQ q0) := by unfold Hid; rw [HRF.out, if_neg (by rw [HFPC.out]; decide)]
      have hnil : Hid (RdP Wt (.slice none 0 0) q0.ps) := by unfold Hid; rw [HQP.out]; exact rdP_nil _
      have hck := opCheck_any q0 (.slice none 0 0) Wt HGT.out.sh HGT.out.lt hnil (by rw [HQP.out]; simp) cc HCC
      unfold opV at hck
      refine hck.mono ?_
      clear hck k0 k1 k2 k3 k4 k5 k6 k7 k8 kf0 kf1 kf2 kf3 kf4 kf5 kf6 kf7 kf8 klt s6
      rintro e w9 ⟨rfl, hb9⟩
      have HG9 := hid_of3 (HGT.out.on hb9)
      have HN9 := hid_of3 (HNT.out.on hb9)
      clear hb9
      obtain ⟨r0, r1, r2, r3, r4, r5, r6, r7, r8, rf0, rf1, rf2, rf3, rf4, rf5, rf6, rf7, rf8, rlt⟩ := HG9.out.rr
      by_cases hcc : cc = 0
      case neg =>
        have he : errV cc = .iface 62 (.int .i64 (cc : Int)) := by unfold errV; rw [if_neg hcc]
        rw [he]
        have HR : Hid (r = (q00, cc)) := by unfold Hid; rw [HRC.out]; unfold finQ; rw [HCC.out, if_neg hcc]
        go_wp2_with fail
        refine bodyPost_ret (v := .tuple #[.agg #[.int .i64 0, .int .i64 0, .int .i64 0, .int .i64 0, .int .i64 0, .int .i64 0, .int .i64 0, .int .i64 0, .slice none 0 0], .iface 62 (.int .i64 (cc : Int))]) (by simp [results, Tryz.results24, go_sem, r0, r1, r2, r3, r4, r5, r6, r7, r8]) rfl (parP_err HR ?_ _ he)
        exact (by (repeat' (first | with_reducible apply Below.setCell | with_reducible apply Below.alloc | with_reducible apply Below.drew)) <;> first | exact HG9.out.bel | (simp; done) | (simp; omega))
      subst hcc
      rw [show errV 0 = .nilIface from rfl]
      have HR : Hid (r = (q0, 0)) := by unfold Hid; rw [HRC.out]; unfold finQ; rw [HCC.out, if_pos rfl]
      obtain ⟨k0, k1, k2, k3, k4, k5, k6, k7, k8, kf0, kf1, kf2, kf3, kf4, kf5, kf6, kf7, kf8, klt⟩ := HN9.out
      go_wp2_with fail
      refine bodyPost_ret (v := .tuple #[.agg #[.int .i64 q0.kind, .int .i64 q0.id, .int .i64 q0.a, .int .i64 q0.b, .int .i64 q0.c, .int .i64 q0.d, .int .i64 q0.pw, .int .i64 q0.ph, .slice none 0 0], .nilIface]) (by simp [results, Tryz.results24, go_sem, r0, r1, r2, r3, r4, r5, r6, r7, r8]) rfl (parP_ok HR ?_ ?_)
      · rw [HQP.out]; exact World.ownsRow_nil _ _ _ _
      · exact (by (repeat' (first | with_reducible apply Below.setCell | with_reducible apply Below.alloc | with_reducible apply Below.drew)) <;> first | exact HG9.out.bel | (simp; done) | (simp; omega))
theorem parseOp_any (nm dt : ByteArray) (w : World) (HS : Hid (Shapes w)) (h1 : 0 < w.heap.size) (hd : dt.size ≤ 1000000) :
    Calls Tryz.prog 24 #[.agg #[.string nm, .string dt]] w fun e w' => ParP (parQ nm dt) w e w' := by
  refine (parseOp_own nm dt w HS h1 hd).mono ?_
  rintro e w' ⟨u, h1, h2, h3⟩
  exact ⟨u, h1, rdP_own h2, h3⟩
end Go.Proofs.YtceabiodelfdoaaGreatDoor
/- An op's bytes are read as the op. -- s1 -/
namespace Go.Proofs.YtceabiodelfdoaaGreatDoor
open Go.RowKit

theorem name_of : ∀ s ∈ shps, nameAt s.bytes shps = some s := by
  intro s hs
  simp only [shps, List.mem_cons, List.not_mem_nil, or_false] at hs
  rcases hs with rfl | rfl | rfl | rfl | rfl | rfl | rfl | rfl | rfl | rfl | rfl | rfl | rfl | rfl | rfl | rfl <;> rfl
theorem nsB_at : ∀ (ns : List Int) (r : List UInt8) (j : Nat) (n : Int), ns[j]? = some n → -20 ≤ n → n ≤ 255 → numAt (nsB ns ++ r) j = n := by
  intro ns
  induction ns with
  | nil => intro r j n h; simp at h
  | cons a l ih =>
    intro r j n h h1 h2
    have e : nsB (a :: l) ++ r = UInt8.ofNat ((a + 128) % 256).toNat :: UInt8.ofNat ((a + 128) / 256).toNat :: (nsB l ++ r) := rfl
    rw [e]
    cases j with
    | zero =>
      simp at h
      subst h
      unfold numAt
      simp only [Nat.mul_zero, List.getD_cons_zero, List.getD_cons_succ, Nat.zero_add]
      rw [u8_toNat _ (by omega), u8_toNat _ (by omega)]
      omega
    | succ k =>
      simp at h
      have := ih r k n h h1 h2
      unfold numAt at this ⊢
      rw [show 2 * (k + 1) = 2 * k + 1 + 1 by omega, List.getD_cons_succ, List.getD_cons_succ, List.getD_cons_succ, List.getD_cons_succ]
      exact this
theorem four_get (q : Pq) (n j : Nat) (hj : j < n) (hn : n ≤ 4) : ((nums4 q).take n)[j]? = some ((nums4 q).getD j 0) := by
  rw [List.getElem?_take_of_lt hj]
  rcases (show j = 0 ∨ j = 1 ∨ j = 2 ∨ j = 3 by omega) with rfl | rfl | rfl | rfl <;> rfl
theorem four_drop (q : Pq) (n j : Nat) (hj : n ≤ j) (h4 : j < 4) (h : ∀ x ∈ (nums4 q).drop n, x = 0) : (nums4 q).getD j 0 = 0 := by
  refine h _ ?_
  rw [List.mem_iff_getElem?]
  refine ⟨j - n, ?_⟩
  rw [List.getElem?_drop, show n + (j - n) = j by omega]
  rcases (show j = 0 ∨ j = 1 ∨ j = 2 ∨ j = 3 by omega) with rfl | rfl | rfl | rfl <;> rfl
theorem numK_is (q : Pq) (s : Shp) (hok : OpOk q s) (hn : s.nums ≤ 4) (r : List UInt8) (j : Nat) (h4 : j < 4) : numK (nsB ((nums4 q).take s.nums) ++ r) s.nums j = (nums4 q).getD j 0 := by
  unfold numK
  by_cases h : j < s.nums
  · rw [if_pos h]
    have e := four_get q s.nums j h hn
    have hm := hok.num _ (List.mem_of_getElem? e)
    exact nsB_at _ _ _ _ e hm.1 hm.2
  · rw [if_neg h]
    exact (four_drop q s.nums j (by omega) h4 (fun x hx => hok.non x (by unfold forL; simp [hx]))).symm
theorem opB_take (q : Pq) (s : Shp) (hn : s.nums ≤ 4) : (opB q s.id s.nums s.pic).take (sizeS s) = idB q.id s.id ++ nsB ((nums4 q).take s.nums) ∧ (opB q s.id s.nums s.pic).drop (sizeS s) = pcB q s.pic := by
  have hl : (idB q.id s.id ++ nsB ((nums4 q).take s.nums)).length = sizeS s := by
    rw [List.length_append, nsB_len, List.length_take]
    unfold idB sizeS
    split <;> simp [nums4] <;> omega
  unfold opB
  rw [← hl]
  exact ⟨List.take_left, List.drop_left⟩
theorem read_opB (q : Pq) (s : Shp) (hok : OpOk q s) (hn : s.nums ≤ 4) (hk : (s.kind : Int) = q.kind) : readQ s.kind s.id s.nums (idB q.id s.id ++ nsB ((nums4 q).take s.nums)) = ⟨q.kind, q.id, q.a, q.b, q.c, q.d, 0, 0, []⟩ := by
  have e : ∀ j, j < 4 → numK (if s.id then (idB q.id s.id ++ nsB ((nums4 q).take s.nums)).drop 1 else (idB q.id s.id ++ nsB ((nums4 q).take s.nums))) s.nums j = (nums4 q).getD j 0 := by
    intro j hj
    have h0 := numK_is q s hok hn [] j hj
    rw [List.append_nil] at h0
    by_cases hi : s.id = true
    · rw [if_pos hi]
      have : (idB q.id s.id ++ nsB ((nums4 q).take s.nums)).drop 1 = nsB ((nums4 q).take s.nums) := by unfold idB; rw [if_pos hi]; rfl
      rw [this]; exact h0
    · rw [if_neg hi]
      have : idB q.id s.id ++ nsB ((nums4 q).take s.nums) = nsB ((nums4 q).take s.nums) := by unfold idB; rw [if_neg hi]; rfl
      rw [this]; exact h0
  unfold readQ
  rw [e 0 (by omega), e 1 (by omega), e 2 (by omega), e 3 (by omega), hk]
  have hid : (if s.id then (((idB q.id s.id ++ nsB ((nums4 q).take s.nums)).getD 0 0).toNat : Int) else 0) = q.id := by
    by_cases hi : s.id = true
    · rw [if_pos hi]
      obtain ⟨i1, i2⟩ := hok.id hi
      have : (idB q.id s.id ++ nsB ((nums4 q).take s.nums)).getD 0 0 = UInt8.ofNat q.id.toNat := by unfold idB; rw [if_pos hi]; rfl
      rw [this, u8_toNat _ (by omega)]
      omega
    · rw [if_neg hi]
      exact (hok.non q.id (by unfold forL; simp [hi])).symm
  rw [hid]
  rfl
/-- what an op's chunk is read as -/
theorem par_opB (q : Pq) (s : Shp) (h : opC q = 0) (hk : kindAt q.kind shps = some s) (dt : ByteArray) (hd : dt.data.toList = opB q s.id s.nums s.pic) : parQ s.bytes dt = (q, 0) := by
  have hok := opC_ok h hk
  obtain ⟨hm, hkk⟩ := kindAt_mem _ _ _ hk
  obtain ⟨hn, hip⟩ := shps_ok s hm
  obtain ⟨ht, hdr⟩ := opB_take q s hn
  have hsz : dt.size = (opB q s.id s.nums s.pic).length := by rw [← hd]; simp
  have hlen : (opB q s.id s.nums s.pic).length = sizeS s + (pcB q s.pic).length := by
    have h1 := congrArg List.length (List.take_append_drop (sizeS s) (opB q s.id s.nums s.pic))
    rw [List.length_append, ht, hdr] at h1
    have h2 : (idB q.id s.id ++ nsB ((nums4 q).take s.nums)).length = sizeS s := by
      rw [List.length_append, nsB_len, List.length_take]
      unfold idB sizeS
      split <;> simp [nums4] <;> omega
    omega
  unfold parQ
  rw [name_of s hm]
  simp only
  rw [if_neg (by
    rintro (h1 | ⟨h1, h2⟩)
    · omega
    · rw [h2] at hlen; unfold pcB at hlen; simp at hlen; rw [h2] at hsz; omega), hd, ht, hdr, read_opB q s hok hn hkk]
  by_cases hp : s.pic = true
  · have hpk := hok.pic hp
    obtain ⟨PW, PH, e1, e2, -⟩ := check_zero _ _ _ hpk
    have hpc : pcB q s.pic = picBytes PW PH q.ps := by unfold pcB; rw [if_pos hp, e1, e2]; rfl
    rw [e1, e2] at hpk
    rw [if_pos hp, hpc, parse_picBytes PW PH q.ps hpk, if_pos rfl]
    have e : (⟨q.kind, q.id, q.a, q.b, q.c, q.d, (PW : Int), (PH : Int), q.ps⟩ : Pq) = q := by rw [← e1, ← e2]
    show finQ ⟨q.kind, q.id, q.a, q.b, q.c, q.d, (PW : Int), (PH : Int), q.ps⟩ = (q, 0)
    rw [e]
    unfold finQ
    rw [if_pos h]
  · rw [if_neg hp]
    have h1 := hok.non q.pw (by unfold forL; simp [hp])
    have h2 := hok.non q.ph (by unfold forL; simp [hp])
    have h3 := hok.non (q.ps.length : Int) (by unfold forL; simp [hp])
    have h4 : q.ps = [] := List.eq_nil_of_length_eq_zero (by omega)
    have e : (⟨q.kind, q.id, q.a, q.b, q.c, q.d, 0, 0, []⟩ : Pq) = q := by
      cases q
      simp only at h1 h2 h4
      subst h1 h2 h4
      rfl
    rw [e]
    unfold finQ
    rw [if_pos h]
end Go.Proofs.YtceabiodelfdoaaGreatDoor
/- Walk: the reference's OpChunk. -- s1 -/
namespace Go.Proofs.YtceabiodelfdoaaGreatDoor
open Go.RowKit

theorem heap_new2 (W : World) (o : Obj) (g : Nat) (hg : W.heap.size = g) : (W.alloc o).heap[g]? = some o := by
  subst hg
  show (W.heap.push o)[W.heap.size]? = some o
  simp
/-- what the reference's OpChunk answers -/
def RckP (q : Pq) (w : World) (e : Ending) (w' : World) : Prop :=
  Below w.heap.size w w' ∧ ((∃ c, opC q = c ∧ c ≠ 0 ∧ e = .returned (.tuple #[.string ⟨#[]⟩, .string ⟨#[]⟩, .int .i64 (c : Int)])) ∨
    (opC q = 0 ∧ ∃ s, kindAt q.kind shps = some s ∧ e = .returned (.tuple #[.string s.bytes, str (opB q s.id s.nums s.pic), .int .i64 0])))
end Go.Proofs.YtceabiodelfdoaaGreatDoor
/- Walk: the reference's BookFault. -/
namespace Go.Proofs.YtceabiodelfdoaaGreatDoor
open Go.RowKit

end Go.Proofs.YtceabiodelfdoaaGreatDoor
/- Walk: the reference's BookBytes. -- s1 -/
namespace Go.Proofs.YtceabiodelfdoaaGreatDoor
open Go.RowKit

/-- the bytes of an op's chunk, of a book -/
def cB (q : Pq) : List UInt8 := match kindAt q.kind shps with
  | some s => Fb.sealL (Fb.headL s.name (opB q s.id s.nums s.pic))
  | none => []
def bookB (qs : List Pq) : List UInt8 := qs.flatMap cB
theorem opB_len (q : Pq) (s : Shp) (hok : OpOk q s) : (opB q s.id s.nums s.pic).length ≤ 1000 := by
  unfold opB
  rw [List.length_append, List.length_append, nsB_len, List.length_take]
  have h1 := idB_len q.id s.id
  have h2 : (nums4 q).length = 4 := rfl
  have h3 : (pcB q s.pic).length ≤ 300 := by
    unfold pcB
    split
    · rename_i hp
      have hpk := hok.pic hp
      obtain ⟨PW, PH, e1, e2, -⟩ := check_zero _ _ _ hpk
      rw [e1, e2] at hpk
      obtain ⟨i1, i2, i3, i4, -, -⟩ := check_ok hpk
      have h := picBytes_len PW PH q.ps hpk
      have h4 : PH * (1 + 2 * PW) ≤ 8 * 17 := Nat.mul_le_mul (by omega) (by omega)
      rw [e1, e2]
      show (picBytes PW PH q.ps).length ≤ 300
      omega
    · simp
  omega
theorem name_ok (s : Shp) (h : s ∈ shps) : Fb.nameB s.name = true ∧ s.name.length = 4 := by
  simp only [shps, List.mem_cons, List.not_mem_nil, or_false] at h
  rcases h with rfl | rfl | rfl | rfl | rfl | rfl | rfl | rfl | rfl | rfl | rfl | rfl | rfl | rfl | rfl | rfl <;> exact ⟨by decide, rfl⟩
theorem seal_len (a b : List UInt8) : (Fb.sealL (Fb.headL a b)).length = a.length + b.length + 4 := by
  unfold Fb.sealL Fb.headL Fb.pairL
  simp
  omega
theorem cB_of (q : Pq) (s : Shp) (hs : kindAt q.kind shps = some s) (hok : OpOk q s) : cB q = (Fb.chunkBytes s.name (opB q s.id s.nums s.pic)).1 ∧ (Fb.chunkBytes s.name (opB q s.id s.nums s.pic)).2 = 0 ∧ (cB q).length ≤ 1008 := by
  have hl := opB_len q s hok
  obtain ⟨h1, h2⟩ := name_ok s (kindAt_mem _ _ _ hs).1
  have h3 : Fb.chunkBytes s.name (opB q s.id s.nums s.pic) = (Fb.sealL (Fb.headL s.name (opB q s.id s.nums s.pic)), 0) := by
    unfold Fb.chunkBytes
    rw [if_neg (by rw [h1]; decide), if_neg (by omega)]
  have h4 : cB q = Fb.sealL (Fb.headL s.name (opB q s.id s.nums s.pic)) := by unfold cB; rw [hs]
  refine ⟨by rw [h3, h4], by rw [h3], ?_⟩
  rw [h4, seal_len]
  omega
theorem bookB_take (qs : List Pq) (k : Nat) (hk : k < qs.length) {q : Pq} (hq : qs.getD k pq0 = q) : bookB (qs.take (k + 1)) = bookB (qs.take k) ++ cB q := by
  subst hq
  unfold bookB
  rw [List.take_succ_eq_append_getElem hk, List.flatMap_append, List.getD_eq_getElem?_getD, List.getElem?_eq_getElem hk]
  simp
theorem bookB_len (qs : List Pq) (h : ∀ q ∈ qs, (cB q).length ≤ 1008) : (bookB qs).length ≤ 1008 * qs.length := by
  induction qs with
  | nil => simp [bookB]
  | cons a r ih =>
    have h1 := h a (by simp)
    have h2 := ih (fun q hq => h q (by simp [hq]))
    unfold bookB at h2 ⊢
    rw [List.flatMap_cons, List.length_append, List.length_cons]
    omega
/-- what the reference's BookBytes answers -/
def RBbP (qs : List Pq) (w : World) (e : Ending) (w' : World) : Prop :=
  Below w.heap.size w w' ∧ ((∃ c, bkC qs = c ∧ c ≠ 0 ∧ e = .returned (.tuple #[.string ⟨#[]⟩, .int .i64 (c : Int)])) ∨ (bkC qs = 0 ∧ e = .returned (.tuple #[str (bookB qs), .int .i64 0])))
end Go.Proofs.YtceabiodelfdoaaGreatDoor
/- Plain functions and lemmas: chunks one behind the other. -/
namespace Go.Proofs.YtceabiodelfdoaaGreatDoor
namespace Fb

/-- All's answer: chunks, and the number of the error; f: no more rounds than that; n: how many were read -/
def allL (most : Int) : Nat → List UInt8 → Nat → List (List UInt8 × List UInt8) × Nat
  | 0, _, _ => ([], 0)
  | f + 1, l, n =>
    if l = [] then ([], 0) else if most ≤ (n : Int) then ([], 2) else if (measureL l).2 ≠ 0 then ([], (measureL l).2)
    else if (allL most f (l.drop (measureL l).1) (n + 1)).2 ≠ 0 then ([], (allL most f (l.drop (measureL l).1) (n + 1)).2)
    else ((l.take 4, ((l.take (measureL l).1).drop 6).take ((measureL l).1 - 8)) :: (allL most f (l.drop (measureL l).1) (n + 1)).1, 0)

set_option maxRecDepth 100000 in
theorem measure_pos {l : List UInt8} (h : (measureL l).2 = 0) : 8 ≤ (measureL l).1 ∧ (measureL l).1 ≤ l.length := by
  unfold measureL at h ⊢
  split at h
  · simp at h
  · split at h
    · simp at h
    · split at h
      · rename_i h1 h2 h3
        rw [if_neg h1, if_neg h2, if_pos h3]
        have : 6 ≤ endL l := by unfold endL; omega
        simp only
        omega
      · simp at h

set_option maxRecDepth 100000 in
theorem allL_fuel (most : Int) : ∀ (f : Nat) (l : List UInt8) (n : Nat), l.length ≤ f → allL most f l n = allL most l.length l n := by
  intro f
  induction f using Nat.strongRecOn with
  | _ f ih =>
    intro l n hl
    match f, hl, ih with
    | 0, hl, _ => rw [show l.length = 0 by omega]
    | f + 1, hl, ih =>
      cases hll : l with
      | nil => simp [allL]
      | cons x r =>
        rw [← hll]
        have hlen : l.length = r.length + 1 := by rw [hll]; rfl
        rw [hlen, allL, allL]
        by_cases hm : (measureL l).2 = 0
        · obtain ⟨h8, hle⟩ := measure_pos hm
          have hd : (l.drop (measureL l).1).length ≤ r.length := by rw [List.length_drop]; omega
          rw [ih f (by omega) _ (n + 1) (by omega), ih r.length (by omega) _ (n + 1) hd]
        · simp [hm]

/-- what has been read, and the rest's answer -/
def comb (cs : List (List UInt8 × List UInt8)) (r : List (List UInt8 × List UInt8) × Nat) : List (List UInt8 × List UInt8) × Nat :=
  if r.2 ≠ 0 then ([], r.2) else (cs ++ r.1, 0)

/-- All's answer of all bytes -/
def allOf (most : Int) (l : List UInt8) (n : Nat) : List (List UInt8 × List UInt8) × Nat := allL most l.length l n

set_option maxRecDepth 100000 in
theorem allOf_nil (most : Int) (n : Nat) : allOf most [] n = ([], 0) := rfl
set_option maxRecDepth 100000 in
theorem allOf_many (most : Int) (l : List UInt8) (n : Nat) (h : l ≠ []) (hm : most ≤ (n : Int)) : allOf most l n = ([], 2) := by
  unfold allOf
  cases l with
  | nil => exact absurd rfl h
  | cons x r => rw [List.length_cons, allL, if_neg (by simp), if_pos hm]
set_option maxRecDepth 100000 in
theorem allOf_err (most : Int) (l : List UInt8) (n : Nat) (h : l ≠ []) (hm : ¬ most ≤ (n : Int)) (he : (measureL l).2 ≠ 0) : allOf most l n = ([], (measureL l).2) := by
  unfold allOf
  cases l with
  | nil => exact absurd rfl h
  | cons x r => rw [List.length_cons, allL, if_neg (by simp), if_neg hm, if_pos he]
set_option maxRecDepth 100000 in
theorem allOf_step (most : Int) (l : List UInt8) (n : Nat) (h : l ≠ []) (hm : ¬ most ≤ (n : Int)) (he : (measureL l).2 = 0) :
    allOf most l n = comb [(l.take 4, ((l.take (measureL l).1).drop 6).take ((measureL l).1 - 8))] (allOf most (l.drop (measureL l).1) (n + 1)) := by
  obtain ⟨h8, hle⟩ := measure_pos he
  unfold allOf comb
  cases hll : l with
  | nil => exact absurd hll h
  | cons x r =>
    rw [← hll]
    have hlen : l.length = r.length + 1 := by rw [hll]; rfl
    rw [hlen, allL, if_neg h, if_neg hm, if_neg (by omega)]
    rw [allL_fuel most r.length _ (n + 1) (by rw [List.length_drop]; omega)]
    rfl

set_option maxRecDepth 100000 in
theorem comb_comb (a b : List (List UInt8 × List UInt8)) (r : List (List UInt8 × List UInt8) × Nat) : comb a (comb b r) = comb (a ++ b) r := by
  unfold comb
  by_cases h : r.2 = 0
  · simp [h]
  · simp [h]

set_option maxRecDepth 100000 in
theorem allL_err (most : Int) (f : Nat) (l : List UInt8) (n : Nat) (h : (allL most f l n).2 ≠ 0) : (allL most f l n).1 = [] := by
  cases f with
  | zero => rfl
  | succ f =>
    rw [allL] at h ⊢
    by_cases h1 : l = []
    · simp [h1]
    · rw [if_neg h1] at h ⊢
      by_cases h2 : most ≤ (n : Int)
      · simp [h2]
      · rw [if_neg h2] at h ⊢
        by_cases h3 : (measureL l).2 = 0
        · rw [if_neg (by omega)] at h ⊢
          by_cases h4 : (allL most f (l.drop (measureL l).1) (n + 1)).2 = 0
          · rw [if_neg (by omega)] at h; simp at h
          · rw [if_pos h4]
        · rw [if_pos h3]

set_option maxRecDepth 100000 in
theorem comb_nil (most : Int) (l : List UInt8) (n : Nat) : comb [] (allOf most l n) = allOf most l n := by
  unfold comb
  by_cases h : (allOf most l n).2 = 0
  · rw [if_neg (by omega), List.nil_append, ← h]
  · rw [if_pos h]
    have := allL_err most l.length l n h
    unfold allOf
    rw [← this]

/-- the bytes of chunks one behind the other -/
def catL : List (List UInt8 × List UInt8) → List UInt8
  | [] => []
  | (n, d) :: r => sealL (headL n d) ++ catL r

set_option maxRecDepth 100000 in
theorem allOf_cat (most : Int) (cs : List (List UInt8 × List UInt8)) : ∀ n : Nat, (∀ p ∈ cs, nameB p.1 = true ∧ p.2.length ≤ 65535) →
    allOf most (catL cs) n = if cs = [] ∨ ((n : Int) + cs.length ≤ most) then (cs, 0) else ([], 2) := by
  induction cs with
  | nil => intro n _; simp [catL, allOf_nil]
  | cons p r ih =>
    intro n hp
    obtain ⟨nm, d⟩ := p
    obtain ⟨hn, hd⟩ := hp (nm, d) (by simp)
    simp only at hn hd
    have ih2 := ih (n + 1) (fun q hq => hp q (by simp [hq]))
    have hne : catL ((nm, d) :: r) ≠ [] := by
      intro e
      have := congrArg List.length e
      simp only [catL, List.length_append, sealL_len, List.length_nil] at this
      omega
    by_cases hm : most ≤ (n : Int)
    · rw [allOf_many _ _ _ hne hm, if_neg]
      intro h
      rcases h with h | h
      · cases h
      · simp only [List.length_cons] at h; omega
    · have hms := measure_seal nm d (catL r) hn hd
      have hfs := first_seal nm d (catL r) hn hd
      rw [allOf_step _ _ _ hne hm (by simp only [catL]; rw [hms])]
      unfold firstL at hfs
      rw [hms] at hfs
      simp only [if_true, Prod.mk.injEq] at hfs
      simp only [catL]
      rw [hms]
      simp only
      rw [hfs.1, hfs.2.1, hfs.2.2.1, ih2]
      unfold comb
      by_cases hr : r = [] ∨ ((n : Int) + 1 + r.length ≤ most)
      · have h1 : r = [] ∨ (((n + 1 : Nat) : Int) + r.length ≤ most) := by rcases hr with h | h; exact .inl h; right; omega
        have h2 : (nm, d) :: r = [] ∨ ((n : Int) + ((nm, d) :: r).length ≤ most) := by
          right
          rcases hr with h | h
          · subst h; simp; omega
          · simp only [List.length_cons]; omega
        rw [if_pos h1, if_pos h2]
        simp
      · have h1 : ¬ (r = [] ∨ (((n + 1 : Nat) : Int) + r.length ≤ most)) := by
          intro h; apply hr; rcases h with h | h; exact .inl h; right; omega
        have h2 : ¬ ((nm, d) :: r = [] ∨ ((n : Int) + ((nm, d) :: r).length ≤ most)) := by
          intro h
          rcases h with h | h
          · cases h
          · apply hr; right; simp only [List.length_cons] at h; omega
        rw [if_neg h1, if_neg h2]
        simp

end Fb
end Go.Proofs.YtceabiodelfdoaaGreatDoor
/- What a book's bytes are read as: chunks, then ops; rows of texts. -- s1 -/
namespace Go.Proofs.YtceabiodelfdoaaGreatDoor
open Go.RowKit

/-- a chunk that is passed over -/
def passB (n : List UInt8) : Bool := decide ((n.getD 0 0).toNat = 88)
/-- ops of chunks, behind those that were read -/
def parB : List (List UInt8 × List UInt8) → List Pq → List Pq × Nat
  | [], acc => (acc, 0)
  | (n, d) :: r, acc => if passB n = true then parB r acc else if (parQ ⟨n.toArray⟩ ⟨d.toArray⟩).2 = 0 then parB r (acc ++ [(parQ ⟨n.toArray⟩ ⟨d.toArray⟩).1]) else ([], (parQ ⟨n.toArray⟩ ⟨d.toArray⟩).2)
/-- ops of a book's bytes, and the number of the error -/
def bookOf (l : List UInt8) : List Pq × Nat :=
  if 4000 < l.length then ([], 2)
  else if (Fb.allOf 120 l 0).2 ≠ 0 then ([], (Fb.allOf 120 l 0).2)
  else if (parB (Fb.allOf 120 l 0).1 []).2 ≠ 0 then ([], (parB (Fb.allOf 120 l 0).1 []).2)
  else if bkC (parB (Fb.allOf 120 l 0).1 []).1 ≠ 0 then ([], bkC (parB (Fb.allOf 120 l 0).1 []).1)
  else ((parB (Fb.allOf 120 l 0).1 []).1, 0)
theorem parB_len : ∀ (cs : List (List UInt8 × List UInt8)) (acc : List Pq), (parB cs acc).1.length ≤ acc.length + cs.length := by
  intro cs
  induction cs with
  | nil => intro acc; simp [parB]
  | cons p r ih =>
    intro acc
    obtain ⟨n, d⟩ := p
    unfold parB
    split
    · have := ih acc; simp only [List.length_cons]; omega
    · split
      · have := ih (acc ++ [(parQ ⟨n.toArray⟩ ⟨d.toArray⟩).1]); simp only [List.length_append, List.length_cons, List.length_nil] at this ⊢; omega
      · simp
theorem Tryz.infoStr : (Tryz.prog.info? 9).map (fun i => (i.zero, i.size, i.bytes)) = some (some (.string ⟨#[]⟩), 1, 16) := by kernel_rfl
/-- a row of texts -/
def txts (l : List (List UInt8)) : List Value := l.map str
theorem txts_len (l : List (List UInt8)) : (txts l).length = l.length * 1 := by simp [txts]
theorem txts_app (a b : List (List UInt8)) : txts (a ++ b) = txts a ++ txts b := by simp [txts]
theorem op_app (w : World) (B : Nat) (v : Value) (qv : List (Pq × Value)) (h : OwnQ w B v qv) (hn : qv.length ≤ 1000) (hB : B ≤ w.heap.size) (x : Pq) (u : Value) (hu : w.ownsRow B 52 2 u x.ps.length (pixCells x.ps)) (g : Nat)
    (hc : ∀ j z, (qCells x u)[j]? = some z → w.cell? ⟨g, j, none⟩ = some z) :
    ∃ v' w', (Builtin.append_ #[22, 22] 22 #[v, .slice (some ⟨g, 0, none⟩) 1 1]).run Tryz.prog w = .ok v' w' ∧ OwnQ w' B v' (qv ++ [(x, u)]) ∧ Below B w w' := by
  obtain ⟨i0, hi, hz0, hz1, hz2⟩ := info_parts Tryz.infoOp
  obtain ⟨ua, uc, hue⟩ := own_any hu
  obtain ⟨v', w', hr, r1, r2, _, _⟩ := run_append_own_at (P := Tryz.prog) w B 22 22 48 i0 _ 9 88 Tryz.underlying22 hi hz0 hz1 hz2 rfl (by decide) v _ _ h.1 ⟨g, 0, none⟩ 1 1 (qCells x u) rfl
    (fun j z hj => by
      have e : (⟨g, 0, none⟩ : Addr).add j = ⟨g, j, none⟩ := by unfold Addr.add; split <;> simp_all
      rw [e]; exact hc j z hj) (by intro z hz; subst hue; simp [qCells] at hz; rcases hz with rfl | rfl | rfl | rfl | rfl | rfl | rfl | rfl | rfl <;> rfl) (by unfold maxLen; omega) (by omega) hB
  exact ⟨v', w', hr, h.app hu r1 r2, (Below.refl _ _).grown r2 hB (fun z hz => (h.1.lt z hz).1)⟩
/-- the first chunk may be: what it has -/
theorem first_name {l : List UInt8} {m : Nat} (h : Fb.measureL l = (m, 0)) : (l.take 4).length = 4 ∧ 8 ≤ m ∧ m ≤ l.length := by
  have h1 := Fb.measure_pos (l := l) (by rw [h])
  rw [h] at h1
  simp only at h1
  refine ⟨by rw [List.length_take]; omega, h1.1, h1.2⟩
end Go.Proofs.YtceabiodelfdoaaGreatDoor
/- Walk: strings.HasPrefix of "X". -- s1 -/
namespace Go.Proofs.YtceabiodelfdoaaGreatDoor
open Go.RowKit

set_option maxHeartbeats 4000000 in
set_option maxRecDepth 100000 in
theorem hasX_lite (nb : ByteArray) (w : World) (hs : 1 ≤ nb.size) (hs2 : nb.size ≤ 1000000) :
    Calls Tryz.prog 43 #[.string nb, .string ⟨#[88]⟩] w fun e w' => e = .returned (.bool (decide ((nb.data.toList.getD 0 0).toNat = 88))) ∧ Below w.heap.size w w' := by
  have hsi : (1 : Int) ≤ (nb.size : Int) := by omega
  go_enter Tryz.func43, Tryz.ntmps43
  go_wp2_with fail
  have e : ((nb.extract 0 1).toList == [88]) = decide ((nb.data.toList.getD 0 0).toNat = 88) := by
    rw [ByteArray.toList_eq, ByteArray.data_extract, Array.toList_extract]
    cases hl : nb.data.toList with
    | nil =>
      have h : nb.data.toList.length = nb.size := by simp
      rw [hl] at h
      simp at h
      omega
    | cons a l =>
      by_cases h : a = 88
      · subst h; simp
      · have h2 : a.toNat ≠ 88 := fun h2 => h (UInt8.toNat_inj.1 h2)
        simp [h, h2]
  rw [e]
  refine bodyPost_ret (v := .bool (decide ((nb.data.toList.getD 0 0).toNat = 88))) (by simp [results, Tryz.results43, go_sem]) rfl ⟨rfl, Below.refl _ _⟩
set_option maxHeartbeats 4000000 in
set_option maxRecDepth 100000 in
theorem hasX_any (nb : ByteArray) (w : World) (hs : 1 ≤ nb.size) (hs2 : nb.size ≤ 1000000) (b : Bool) (HB : Hid (decide ((nb.data.toList.getD 0 0).toNat = 88) = b)) :
    Calls Tryz.prog 23 #[.string nb, .string ⟨#[88]⟩] w fun e w' => e = .returned (.bool b) ∧ Below w.heap.size w w' := by
  have hc := hasX_lite nb w hs hs2
  rw [HB.out] at hc
  go_enter Tryz.func23, Tryz.ntmps23
  go_wp2_with fail
  refine hc.mono ?_
  rintro e w1 ⟨rfl, hb1⟩
  go_wp2_with fail
  go_ret
  exact ⟨rfl, hb1⟩
end Go.Proofs.YtceabiodelfdoaaGreatDoor
/- Kinds by names, as the reference looks for them. -- s1 -/
namespace Go.Proofs.YtceabiodelfdoaaGreatDoor
open Go.RowKit

def kindNm (k : Nat) : ByteArray := ⟨(nmsB.getD k []).toArray⟩
/-- the last of the first k kinds that has the name; 0: none -/
def kn (nm : ByteArray) : Nat → Nat
  | 0 => 0
  | k + 1 => if kindNm (k + 1) = nm then k + 1 else kn nm k
theorem nameAt_none (nm : ByteArray) : ∀ (l : List Shp), nameAt nm l = none → ∀ s ∈ l, s.bytes ≠ nm := by
  intro l
  induction l with
  | nil => intro _ s h; cases h
  | cons a r ih =>
    intro h s hs
    unfold nameAt at h
    split at h
    · cases h
    · rcases List.mem_cons.1 hs with rfl | hs
      · assumption
      · exact ih h s hs
theorem kn_none (nm : ByteArray) (h : nameAt nm shps = none) : ∀ k, k ≤ 16 → kn nm k = 0 := by
  intro k
  induction k with
  | zero => intro _; rfl
  | succ k ih =>
    intro hk
    unfold kn
    have hkl : k < shps.length := hk
    rw [if_neg, ih (by omega)]
    have h2 := nameAt_none nm shps h shps[k] (List.getElem_mem hkl)
    have h3 : kindNm (k + 1) = (shps[k]).bytes := by
      unfold kindNm nmsB Shp.bytes
      rw [List.getD_eq_getElem?_getD, List.getElem?_cons_succ, List.getElem?_map, List.getElem?_eq_getElem hkl]
      rfl
    rw [h3]
    exact h2
theorem kn_some (nm : ByteArray) (s : Shp) (h : nameAt nm shps = some s) : kn nm 16 = s.kind ∧ kindAt (s.kind : Int) shps = some s := by
  obtain ⟨hm, rfl⟩ := nameAt_mem _ _ _ h
  clear h
  simp only [shps, List.mem_cons, List.not_mem_nil, or_false] at hm
  rcases hm with rfl | rfl | rfl | rfl | rfl | rfl | rfl | rfl | rfl | rfl | rfl | rfl | rfl | rfl | rfl | rfl <;> exact ⟨by decide +kernel, by rfl⟩
end Go.Proofs.YtceabiodelfdoaaGreatDoor
/- Walk of the reference's PictureOf. -/
namespace Go.Proofs.YtceabiodelfdoaaGreatDoor
open Go.RowKit

def iv (b : UInt8) : Value := .int .i64 (b.toNat : Int)
set_option maxRecDepth 100000 in
theorem pixCells_pixOf : ∀ (n : Nat) (bs : List UInt8), bs.length = 2 * n → pixCells (pixOf bs) = bs.map iv
  | 0, bs, h => by
    have : bs = [] := List.eq_nil_of_length_eq_zero (by omega)
    subst this; rfl
  | n + 1, [], h => by simp at h
  | n + 1, [_], h => by simp at h; omega
  | n + 1, a :: b :: r, h => by
    rw [pixOf, pixCells, pixCells_pixOf n r (by simp at h; omega)]; rfl

set_option maxRecDepth 100000 in
theorem set_rowI (t : List UInt8) (x : UInt8) (k n : Nat) (hk : k < n) (ht : t.length = k) : ((t ++ List.replicate (n - k) 0).map iv).set k (iv x) = ((t ++ [x]) ++ List.replicate (n - (k + 1)) 0).map iv := by
  rw [show n - k = (n - (k + 1)) + 1 by omega, List.replicate_succ, List.map_append, List.set_append_right _ _ (by simp [ht]), List.map_cons]
  simp [ht]

set_option maxRecDepth 100000 in
theorem made_two (n : Nat) : (madeCells #[Value.int .i64 0, Value.int .i64 0] n).toList = (List.replicate n (0 : UInt8)).map iv := by
  apply List.ext_getElem?
  intro j
  by_cases hj : j < n
  · have h2 : j % 2 = 0 ∨ j % 2 = 1 := by omega
    rcases h2 with h | h <;> simp [madeCells, hj, h, iv]
  · simp [madeCells, hj]

set_option maxRecDepth 100000 in
theorem pixOf_append : ∀ (n : Nat) (a b : List UInt8), a.length = 2 * n → pixOf (a ++ b) = pixOf a ++ pixOf b
  | 0, a, b, h => by
    have : a = [] := List.eq_nil_of_length_eq_zero (by omega)
    subst this; rfl
  | n + 1, [], b, h => by simp at h
  | n + 1, [_], b, h => by simp at h; omega
  | n + 1, x :: y :: r, b, h => by
    rw [List.cons_append, List.cons_append, pixOf, pixOf, pixOf_append n r b (by simp at h; omega)]; rfl
set_option maxRecDepth 100000 in
theorem pixOf_app (k W : Nat) (a b : List UInt8) (h : a.length = k * (2 * W)) : pixOf (a ++ b) = pixOf a ++ pixOf b :=
  pixOf_append (k * W) a b (by rw [h, Nat.mul_left_comm])

set_option maxRecDepth 100000 in
theorem left_cur (done r z : List UInt8) (L k i : Nat) (hd : done.length = k * L) (hr : r.length = i) : leftG ((done ++ r) ++ z) L k i = Fb.leftB r i := by
  unfold leftG Fb.leftB
  by_cases h : i < 2
  · rw [if_pos h, if_pos h]
  · rw [if_neg h, if_neg h, Fb.getD_app _ _ _ (by rw [List.length_append, hd, hr]; omega), List.getD_eq_getElem?_getD, List.getElem?_append_right (by rw [hd]; omega), hd, Nat.add_sub_cancel_left, ← List.getD_eq_getElem?_getD]
set_option maxRecDepth 100000 in
theorem up_cur (done r z : List UInt8) (L k i : Nat) (hd : done.length = k * L) (hi : i < L) : upG ((done ++ r) ++ z) L k i = (abG done L k).getD i 0 := by
  rw [abG_getD _ _ _ _ hi]
  unfold upG
  by_cases h : k = 0
  · rw [if_pos h, if_pos h]
  · have h1 : (k - 1) * L + L = k * L := by rw [← Nat.succ_mul]; congr 1; omega
    rw [if_neg h, if_neg h, Fb.getD_app _ _ _ (by rw [List.length_append, hd]; omega), Fb.getD_app _ _ _ (by rw [hd]; omega)]

/-- what holds while the pixels are filled -/
def Gf (B b1 : Nat) (w : World) (W H N : Nat) (cur : List UInt8) (w' : World) : Prop :=
  w'.ownsRow B 52 2 (.slice (some ⟨B, 0, none⟩) N N) N (cur.map iv) ∧ Three w' b1 (.int .i64 (W : Int)) (.int .i64 (H : Int)) (.slice (some ⟨B, 0, none⟩) N N) ∧ Three w' w.heap.size (.int .i64 0) (.int .i64 0) (.slice none 0 0) ∧ Below w.heap.size w w'
set_option maxRecDepth 100000 in
theorem Gf.on {B b1 : Nat} {w : World} {W H N : Nat} {cur : List UInt8} {w1 w2 : World} (h : Gf B b1 w W H N cur w1) (hb : Below w1.heap.size w1 w2) : Gf B b1 w W H N cur w2 :=
  ⟨own_on2 h.1 hb, h.2.1.on hb, h.2.2.1.on hb, h.2.2.2.trans (hb.mono h.2.2.2.size)⟩
set_option maxRecDepth 100000 in
theorem Gf.drew {B b1 : Nat} {w : World} {W H N : Nat} {cur : List UInt8} {w1 : World} (h : Gf B b1 w W H N cur w1) : Gf B b1 w W H N cur w1.drew :=
  ⟨h.1.drew, h.2.1.drew, h.2.2.1.drew, h.2.2.2.drew⟩
set_option maxRecDepth 100000 in
theorem Gf.rd {B b1 : Nat} {w : World} {W H N : Nat} {cur : List UInt8} {w1 : World} (h : Gf B b1 w W H N cur w1) (hl : cur.length = 2 * N) : RdP w1 (.slice (some ⟨B, 0, none⟩) N N) (pixOf cur) := by
  have h1 := h.1
  rw [← pixCells_pixOf N cur hl] at h1
  exact rdP_own (B := B) (by rw [pixOf_len N cur hl]; exact h1)

set_option maxRecDepth 100000 in
theorem Gf.at {B b1 : Nat} {w : World} {W H N j : Nat} {a : List UInt8} {w1 : World} (h : Gf B b1 w W H N (a ++ List.replicate (N * 2 - j) 0) w1) (hj : a.length = j) (hjN : j < N * 2) :
    w1.cell? ⟨B, j, none⟩ = some (.int .i64 0) ∧ w1.frozen? ⟨B, j, none⟩ = false := by
  refine ⟨?_, h.1.frozenAt j⟩
  rw [h.1.cellAt j (by omega), List.getElem?_map, List.getElem?_append_right (by omega), hj, Nat.sub_self, show N * 2 - j = (N * 2 - j - 1) + 1 by omega, List.replicate_succ]; rfl
set_option maxRecDepth 100000 in
theorem Gf.store {B b1 : Nat} {w : World} {W H N j : Nat} {a : List UInt8} {w1 : World} (h : Gf B b1 w W H N (a ++ List.replicate (N * 2 - j) 0) w1) (hj : a.length = j) (hjN : j < N * 2) (h1 : b1 ≠ B) (h2 : w.heap.size < B) (nd : UInt8) (D : Nat) (hD : nd.toNat = D) :
    Gf B b1 w W H N ((a ++ [nd]) ++ List.replicate (N * 2 - (j + 1)) 0) (w1.setCell ⟨B, j, none⟩ (.int .i64 (D : Int))) := by
  refine ⟨?_, h.2.1.other h1, h.2.2.1.other (by omega), h.2.2.2.setCell (show w.heap.size ≤ B by omega) _⟩
  have hs := (h.1.stored j (.int .i64 (D : Int))).1
  have e : (.int .i64 (D : Int) : Value) = iv nd := by unfold iv; rw [hD]
  rw [e] at hs ⊢
  rw [set_rowI a nd j (N * 2) hjN hj] at hs
  exact hs

end Go.Proofs.YtceabiodelfdoaaGreatDoor
/- Walk of the reference's PictureOf: its pixels are its own. -- s1 -/
namespace Go.Proofs.YtceabiodelfdoaaGreatDoor
open Go.RowKit

end Go.Proofs.YtceabiodelfdoaaGreatDoor
