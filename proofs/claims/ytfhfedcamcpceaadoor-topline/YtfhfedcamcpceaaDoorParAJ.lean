/- Walk: op.Parse. -- s1 -/
import Derived.Test.YtfhfedcamcpceaaDoorM4
import Derived.Test.YtfhfedcamcpceaaDoorReadBJ
import Derived.Test.YtfhfedcamcpceaaDoorPicLoJ
import Derived.Lib.IndexBytes
import Derived.Test.YtfhfedcamcpceaaDoorPicNJ
import Derived.Test.YtfhfedcamcpceaaDoorParLJ
namespace Go.Proofs.YtfhfedcamcpceaaDoor
open Go.RowKit

def q00 : Pq := ⟨0, 0, 0, 0, 0, 0, 0, 0, []⟩
/-- what a chunk is read as: an op, or the number of an error -/
def finQ (q : Pq) : Pq × Nat := if opC q = 0 then (q, 0) else (q00, opC q)
def parQ (nm dt : ByteArray) : Pq × Nat :=
  match nameAt nm shps with
  | none => (q00, 5)
  | some s =>
    if dt.size < sizeS s ∨ (sizeS s < dt.size ∧ s.pic = false) then (q00, 4)
    else if s.pic = true then
      (if (parseL (dt.data.toList.drop (sizeS s))).2.2.2 = 0 then
        finQ { readQ s.kind s.id s.nums (dt.data.toList.take (sizeS s)) with pw := ((parseL (dt.data.toList.drop (sizeS s))).1 : Int), ph := ((parseL (dt.data.toList.drop (sizeS s))).2.1 : Int), ps := (parseL (dt.data.toList.drop (sizeS s))).2.2.1 }
      else (q00, (parseL (dt.data.toList.drop (sizeS s))).2.2.2))
    else finQ (readQ s.kind s.id s.nums (dt.data.toList.take (sizeS s)))
def ParP (r : Pq × Nat) (w : World) (e : Ending) (w' : World) : Prop := ∃ u, e = .returned (.tuple #[opV r.1 u, errV r.2]) ∧ RdP w' u r.1.ps ∧ Below w.heap.size w w'
def PaOP (r : Pq × Nat) (w : World) (e : Ending) (w' : World) : Prop := ∃ u, e = .returned (.tuple #[opV r.1 u, errV r.2]) ∧ w'.ownsRow w.heap.size 88 2 u r.1.ps.length (pixCells r.1.ps) ∧ Below w.heap.size w w'
theorem parP_err {r : Pq × Nat} {c : Nat} {w w' : World} (h : Hid (r = (q00, c))) (hb : Below w.heap.size w w') (ev : Value) (he : errV c = ev) : PaOP r w (.returned (.tuple #[.agg #[.int .i64 0, .int .i64 0, .int .i64 0, .int .i64 0, .int .i64 0, .int .i64 0, .int .i64 0, .int .i64 0, .slice none 0 0], ev])) w' := by
  rw [h.out, ← he]
  exact ⟨_, rfl, World.ownsRow_nil _ _ _ _, hb⟩
theorem parP_ok {r : Pq × Nat} {q : Pq} {w w' : World} {u : Value} (h : Hid (r = (q, 0))) (hr : w'.ownsRow w.heap.size 88 2 u q.ps.length (pixCells q.ps)) (hb : Below w.heap.size w w') : PaOP r w (.returned (.tuple #[.agg #[.int .i64 q.kind, .int .i64 q.id, .int .i64 q.a, .int .i64 q.b, .int .i64 q.c, .int .i64 q.d, .int .i64 q.pw, .int .i64 q.ph, u], .nilIface])) w' := by
  rw [h.out]
  exact ⟨u, rfl, hr, hb⟩
/-- what holds on the road -/
structure Gpa (w : World) (nm dt : ByteArray) (sb : Nat) (s : Shp) (w' : World) : Prop where
  tt : Two w' w.heap.size (.string nm) (.string dt)
  rr : Nine w' (w.heap.size + 1) (.int .i64 0) (.int .i64 0) (.int .i64 0) (.int .i64 0) (.int .i64 0) (.int .i64 0) (.int .i64 0) (.int .i64 0) (.slice none 0 0)
  ss : Seven w' sb (.int .i64 (s.kind : Int)) (.string s.bytes) (.bool s.id) (.int .i64 (s.nums : Int)) (.int .i64 s.low) (.int .i64 s.high) (.bool s.pic)
  sh : Shapes w'
  lt : 3 < w'.heap.size
  bel : Below w.heap.size w w'
section
variable {w : World} {nm dt : ByteArray} {sb : Nat} {s : Shp} {w1 w2 : World}
theorem Gpa.on (h : Gpa w nm dt sb s w1) (hb : Below w1.heap.size w1 w2) : Gpa w nm dt sb s w2 :=
  ⟨h.tt.on hb, h.rr.on hb, h.ss.on hb, h.sh.on h.lt hb, Nat.lt_of_lt_of_le h.lt hb.size, h.bel.trans (hb.mono h.bel.size)⟩
theorem Gpa.onB {B : Nat} (h : Gpa w nm dt sb s w1) (hb : Below B w1 w2) (hB : B ≤ w1.heap.size) (h1 : w.heap.size + 2 ≤ B) (h2 : sb < B) (h3 : 3 < B) : Gpa w nm dt sb s w2 :=
  ⟨h.tt.onB hb (by omega), h.rr.onB hb (by omega), h.ss.onB hb h2, fun k s hk j u hu => (hb.cell (p := ⟨3, 7 * k + j, none⟩) h3).trans (h.sh k s hk j u hu), by have := hb.size; omega, h.bel.trans (hb.mono (by omega))⟩
theorem Gpa.drew (h : Gpa w nm dt sb s w1) : Gpa w nm dt sb s w1.drew :=
  ⟨h.tt.drew, h.rr.drew, h.ss.drew, h.sh, h.lt, h.bel.drew⟩
end
theorem nine_pic {W : World} {b : Nat} {x0 x1 x2 x3 x4 x5 x6 x7 x8 : Value} (h : Nine W b x0 x1 x2 x3 x4 x5 x6 x7 x8) (a c d : Value) : Nine (((W.setCell ⟨b, 6, none⟩ a).setCell ⟨b, 7, none⟩ c).setCell ⟨b, 8, none⟩ d) b x0 x1 x2 x3 x4 x5 a c d := by
  refine ⟨?_, ?_, ?_, ?_, ?_, ?_, ?_, ?_, ?_, by simp [h.f0], by simp [h.f1], by simp [h.f2], by simp [h.f3], by simp [h.f4], by simp [h.f5], by simp [h.f6], by simp [h.f7], by simp [h.f8], by simpa using h.lt⟩
  · rw [cell_set_ne _ _ _ _ _ (by decide), cell_set_ne _ _ _ _ _ (by decide), cell_set_ne _ _ _ _ _ (by decide)]; exact h.c0
  · rw [cell_set_ne _ _ _ _ _ (by decide), cell_set_ne _ _ _ _ _ (by decide), cell_set_ne _ _ _ _ _ (by decide)]; exact h.c1
  · rw [cell_set_ne _ _ _ _ _ (by decide), cell_set_ne _ _ _ _ _ (by decide), cell_set_ne _ _ _ _ _ (by decide)]; exact h.c2
  · rw [cell_set_ne _ _ _ _ _ (by decide), cell_set_ne _ _ _ _ _ (by decide), cell_set_ne _ _ _ _ _ (by decide)]; exact h.c3
  · rw [cell_set_ne _ _ _ _ _ (by decide), cell_set_ne _ _ _ _ _ (by decide), cell_set_ne _ _ _ _ _ (by decide)]; exact h.c4
  · rw [cell_set_ne _ _ _ _ _ (by decide), cell_set_ne _ _ _ _ _ (by decide), cell_set_ne _ _ _ _ _ (by decide)]; exact h.c5
  · rw [cell_set_ne _ _ _ _ _ (by decide), cell_set_ne _ _ _ _ _ (by decide)]; exact World.cell?_setCell_same _ _ _ h.c6
  · rw [cell_set_ne _ _ _ _ _ (by decide)]; exact World.cell?_setCell_same _ _ _ ((cell_set_ne _ _ _ _ _ (by decide)).trans h.c7)
  · exact World.cell?_setCell_same _ _ _ ((cell_set_ne _ _ _ _ _ (by decide)).trans ((cell_set_ne _ _ _ _ _ (by decide)).trans h.c8))
theorem nine_all {W : World} {b : Nat} {x0 x1 x2 x3 x4 x5 x6 x7 x8 : Value} (h : Nine W b x0 x1 x2 x3 x4 x5 x6 x7 x8) (y0 y1 y2 y3 y4 y5 y6 y7 y8 : Value) : Nine (((((((((W.setCell ⟨b, 0, none⟩ y0).setCell ⟨b, 1, none⟩ y1).setCell ⟨b, 2, none⟩ y2).setCell ⟨b, 3, none⟩ y3).setCell ⟨b, 4, none⟩ y4).setCell ⟨b, 5, none⟩ y5).setCell ⟨b, 6, none⟩ y6).setCell ⟨b, 7, none⟩ y7).setCell ⟨b, 8, none⟩ y8) b y0 y1 y2 y3 y4 y5 y6 y7 y8 := by
  refine ⟨?_, ?_, ?_, ?_, ?_, ?_, ?_, ?_, ?_, by simp [h.f0], by simp [h.f1], by simp [h.f2], by simp [h.f3], by simp [h.f4], by simp [h.f5], by simp [h.f6], by simp [h.f7], by simp [h.f8], by simpa using h.lt⟩
  · rw [cell_set_ne _ _ _ _ _ (by decide), cell_set_ne _ _ _ _ _ (by decide), cell_set_ne _ _ _ _ _ (by decide), cell_set_ne _ _ _ _ _ (by decide), cell_set_ne _ _ _ _ _ (by decide), cell_set_ne _ _ _ _ _ (by decide), cell_set_ne _ _ _ _ _ (by decide), cell_set_ne _ _ _ _ _ (by decide)]; exact World.cell?_setCell_same _ _ _ h.c0
  · rw [cell_set_ne _ _ _ _ _ (by decide), cell_set_ne _ _ _ _ _ (by decide), cell_set_ne _ _ _ _ _ (by decide), cell_set_ne _ _ _ _ _ (by decide), cell_set_ne _ _ _ _ _ (by decide), cell_set_ne _ _ _ _ _ (by decide), cell_set_ne _ _ _ _ _ (by decide)]; exact World.cell?_setCell_same _ _ _ ((cell_set_ne _ _ _ _ _ (by decide)).trans h.c1)
  · rw [cell_set_ne _ _ _ _ _ (by decide), cell_set_ne _ _ _ _ _ (by decide), cell_set_ne _ _ _ _ _ (by decide), cell_set_ne _ _ _ _ _ (by decide), cell_set_ne _ _ _ _ _ (by decide), cell_set_ne _ _ _ _ _ (by decide)]; exact World.cell?_setCell_same _ _ _ ((cell_set_ne _ _ _ _ _ (by decide)).trans ((cell_set_ne _ _ _ _ _ (by decide)).trans h.c2))
  · rw [cell_set_ne _ _ _ _ _ (by decide), cell_set_ne _ _ _ _ _ (by decide), cell_set_ne _ _ _ _ _ (by decide), cell_set_ne _ _ _ _ _ (by decide), cell_set_ne _ _ _ _ _ (by decide)]; exact World.cell?_setCell_same _ _ _ ((cell_set_ne _ _ _ _ _ (by decide)).trans ((cell_set_ne _ _ _ _ _ (by decide)).trans ((cell_set_ne _ _ _ _ _ (by decide)).trans h.c3)))
  · rw [cell_set_ne _ _ _ _ _ (by decide), cell_set_ne _ _ _ _ _ (by decide), cell_set_ne _ _ _ _ _ (by decide), cell_set_ne _ _ _ _ _ (by decide)]; exact World.cell?_setCell_same _ _ _ ((cell_set_ne _ _ _ _ _ (by decide)).trans ((cell_set_ne _ _ _ _ _ (by decide)).trans ((cell_set_ne _ _ _ _ _ (by decide)).trans ((cell_set_ne _ _ _ _ _ (by decide)).trans h.c4))))
  · rw [cell_set_ne _ _ _ _ _ (by decide), cell_set_ne _ _ _ _ _ (by decide), cell_set_ne _ _ _ _ _ (by decide)]; exact World.cell?_setCell_same _ _ _ ((cell_set_ne _ _ _ _ _ (by decide)).trans ((cell_set_ne _ _ _ _ _ (by decide)).trans ((cell_set_ne _ _ _ _ _ (by decide)).trans ((cell_set_ne _ _ _ _ _ (by decide)).trans ((cell_set_ne _ _ _ _ _ (by decide)).trans h.c5)))))
  · rw [cell_set_ne _ _ _ _ _ (by decide), cell_set_ne _ _ _ _ _ (by decide)]; exact World.cell?_setCell_same _ _ _ ((cell_set_ne _ _ _ _ _ (by decide)).trans ((cell_set_ne _ _ _ _ _ (by decide)).trans ((cell_set_ne _ _ _ _ _ (by decide)).trans ((cell_set_ne _ _ _ _ _ (by decide)).trans ((cell_set_ne _ _ _ _ _ (by decide)).trans ((cell_set_ne _ _ _ _ _ (by decide)).trans h.c6))))))
  · rw [cell_set_ne _ _ _ _ _ (by decide)]; exact World.cell?_setCell_same _ _ _ ((cell_set_ne _ _ _ _ _ (by decide)).trans ((cell_set_ne _ _ _ _ _ (by decide)).trans ((cell_set_ne _ _ _ _ _ (by decide)).trans ((cell_set_ne _ _ _ _ _ (by decide)).trans ((cell_set_ne _ _ _ _ _ (by decide)).trans ((cell_set_ne _ _ _ _ _ (by decide)).trans ((cell_set_ne _ _ _ _ _ (by decide)).trans h.c7)))))))
  · exact World.cell?_setCell_same _ _ _ ((cell_set_ne _ _ _ _ _ (by decide)).trans ((cell_set_ne _ _ _ _ _ (by decide)).trans ((cell_set_ne _ _ _ _ _ (by decide)).trans ((cell_set_ne _ _ _ _ _ (by decide)).trans ((cell_set_ne _ _ _ _ _ (by decide)).trans ((cell_set_ne _ _ _ _ _ (by decide)).trans ((cell_set_ne _ _ _ _ _ (by decide)).trans ((cell_set_ne _ _ _ _ _ (by decide)).trans h.c8))))))))
theorem own_al {X : World} {B : Nat} {e : TypeId} {z : Nat} {v : Value} {n : Nat} {xs : List Value} (h : X.ownsRow B e z v n xs) (o : Obj) : (X.alloc o).ownsRow B e z v n xs := own_on2 h ((Below.refl _ _).alloc (Nat.le_refl _) o)

set_option maxHeartbeats 16000000 in
set_option maxRecDepth 100000 in
theorem parseOp_own (nm dt : ByteArray) (w : World) (HS : Hid (Shapes w)) (h1 : 3 < w.heap.size) (hd : dt.size ≤ 1000000) :
    Calls Tryd.prog 11 #[.agg #[.string nm, .string dt]] w fun e w' => PaOP (parQ nm dt) w e w' := by
  obtain ⟨r, HRR⟩ : ∃ r, Hid (parQ nm dt = r) := ⟨_, (rfl : _ = _)⟩
  rw [HRR.out]
  obtain ⟨X0, HX0⟩ : ∃ X0, Hid ((w.alloc (.cells #[.string nm, .string dt] 30)).alloc (.cells #[.int .i64 0, .int .i64 0, .int .i64 0, .int .i64 0, .int .i64 0, .int .i64 0, .int .i64 0, .int .i64 0, .slice none 0 0] 26) = X0) := ⟨_, (rfl : _ = _)⟩
  have hbz : Below w.heap.size w X0 := by rw [← HX0.out]; exact ((Below.refl _ _).alloc (Nat.le_refl _) _).alloc (by simp) _
  have T0 := hid_of3 (show Two X0 w.heap.size (.string nm) (.string dt) by rw [← HX0.out]; exact (two_startB w _ _ 30 w.heap.size rfl).alloc _)
  have R0 := hid_of3 (show Nine X0 (w.heap.size + 1) (.int .i64 0) (.int .i64 0) (.int .i64 0) (.int .i64 0) (.int .i64 0) (.int .i64 0) (.int .i64 0) (.int .i64 0) (.slice none 0 0) by rw [← HX0.out]; exact nine_start _ _ _ _ _ _ _ _ _ _ 26 (w.heap.size + 1) (by simp))
  have HS0 : Hid (Shapes X0) := HS.out.on h1 hbz
  have h1' := Nat.lt_of_lt_of_le h1 hbz.size
  have hc0 : X0.cell? ⟨w.heap.size, 0, none⟩ = some (.string nm) := T0.out.c0
  have hlt0 : w.heap.size < X0.heap.size := by rw [← HX0.out]; simp; omega
  go_enter Tryd.func11, Tryd.ntmps11
  go_wp2_with fail
  rw [HX0.out]
  refine (findN_any nm w.heap.size X0 HS0 h1' hlt0 hc0).mono ?_
  unfold FindP
  obtain ⟨os, HOS⟩ : ∃ o, Hid (nameAt nm shps = o) := ⟨_, (rfl : _ = _)⟩
  rw [HOS.out]
  rintro e w2 ⟨hb2, he⟩
  have hbb2 := hbz.trans (hb2.mono hbz.size)
  have T2 := hid_of3 (T0.out.on hb2)
  have R2 := hid_of3 (R0.out.on hb2)
  have HS2 : Hid (Shapes w2) := HS0.out.on h1' hb2
  have h12 := Nat.lt_of_lt_of_le h1' hb2.size
  clear hbz hb2 T0 R0 HS0 h1' hc0 hlt0 HX0
  cases os with
  | none =>
    simp only at he
    subst he
    have HR5 : Hid (r = (q00, 5)) := by unfold Hid; rw [← HRR.out]; unfold parQ; rw [HOS.out]
    obtain ⟨r0, r1, r2, r3, r4, r5, r6, r7, r8, rf0, rf1, rf2, rf3, rf4, rf5, rf6, rf7, rf8, rlt⟩ := R2.out
    unfold shp0 Shp.val Shp.bytes
    go_wp2_with fail
    refine bodyPost_ret (v := .tuple #[.agg #[.int .i64 0, .int .i64 0, .int .i64 0, .int .i64 0, .int .i64 0, .int .i64 0, .int .i64 0, .int .i64 0, .slice none 0 0], .iface 69 (.int .i64 5)]) (by simp [results, Tryd.results11, go_sem, r0, r1, r2, r3, r4, r5, r6, r7, r8, rlt]) rfl (parP_err HR5 ?_ _ rfl)
    have hwz2 := hbb2.size
    repeat' (first | with_reducible apply Below.setCell | with_reducible apply Below.alloc | with_reducible apply Below.drew)
    all_goals first | exact hbb2 | (simp; done) | (simp; omega)
  | some s =>
  simp only at he
  subst he
  obtain ⟨hs1, hs2⟩ := shps_ok s (nameAt_mem _ _ _ HOS.out).1
  have hbs : Below w2.heap.size w2 (w2.alloc (.cells #[.int .i64 (s.kind : Int), .string s.bytes, .bool s.id, .int .i64 (s.nums : Int), .int .i64 s.low, .int .i64 s.high, .bool s.pic] 56)) := (Below.refl _ _).alloc (Nat.le_refl _) _
  have S2 := seven_start w2 (.int .i64 (s.kind : Int)) (.string s.bytes) (.bool s.id) (.int .i64 (s.nums : Int)) (.int .i64 s.low) (.int .i64 s.high) (.bool s.pic) 56 w2.heap.size rfl
  have HG0 : Gpa w nm dt w2.heap.size s (w2.alloc (.cells #[.int .i64 (s.kind : Int), .string s.bytes, .bool s.id, .int .i64 (s.nums : Int), .int .i64 s.low, .int .i64 s.high, .bool s.pic] 56)) := ⟨T2.out.on hbs, R2.out.on hbs, S2, HS2.out.on h12 hbs, Nat.lt_of_lt_of_le h12 hbs.size, hbb2.trans (hbs.mono hbb2.size)⟩
  have hbig : w.heap.size + 2 ≤ w2.heap.size := by have := R2.out.lt; omega
  clear hbb2 T2 R2 HS2 h12 hbs S2
  unfold Shp.val
  obtain ⟨X2, HX2⟩ : ∃ X, Hid (w2.alloc (.cells #[.int .i64 (s.kind : Int), .string s.bytes, .bool s.id, .int .i64 (s.nums : Int), .int .i64 s.low, .int .i64 s.high, .bool s.pic] 56) = X) := ⟨_, (rfl : _ = _)⟩
  obtain ⟨sb, HSB⟩ : ∃ b, Hid (w2.heap.size = b) := ⟨_, (rfl : _ = _)⟩
  have HG := hid_of3 HG0
  clear HG0
  obtain ⟨⟨t0, t1, -, -, -⟩, -, ⟨s0, s1, s2, s3, s4, s5, s6, -, -, -, -, -, -, -, -⟩, -, -, -⟩ := HG.out
  go_wp2_with fail
  rw [HX2.out, HSB.out] at HG
  rw [HX2.out, HSB.out]
  rw [HSB.out] at hbig
  clear t0 t1 s0 s1 s2 s3 s4 s5 s6 HX2 HSB
  have hsz := sizeS_any s X2 hs1
  unfold Shp.val at hsz
  refine hsz.mono ?_
  clear hsz
  rintro e w3 ⟨rfl, hb3⟩
  replace HG := hid_of3 (HG.out.on hb3)
  clear hb3
  obtain ⟨N, HN⟩ : ∃ n, Hid (sizeS s = n) := ⟨_, (rfl : _ = _)⟩
  have hN : N ≤ 9 := by rw [← HN.out]; unfold sizeS; split <;> omega
  rw [HN.out]
  obtain ⟨fpc, HFPC⟩ : ∃ b, Hid (s.pic = b) := ⟨_, (rfl : _ = _)⟩
  obtain ⟨D, HDD⟩ : ∃ n, Hid (dt.size = n) := ⟨_, (rfl : _ = _)⟩
  have HR4 : dt.size < N ∨ (N < dt.size ∧ fpc = false) → Hid (r = (q00, 4)) := fun hh => by
    unfold Hid; rw [← HRR.out]; unfold parQ; rw [HOS.out]; simp only
    rw [HN.out, HFPC.out, if_pos hh]
  obtain ⟨⟨t0, t1, -, -, -⟩, ⟨r0, r1, r2, r3, r4, r5, r6, r7, r8, rf0, rf1, rf2, rf3, rf4, rf5, rf6, rf7, rf8, rlt⟩, ⟨s0, s1, s2, s3, s4, s5, s6, -, -, -, -, -, -, -, -⟩, -, -, -⟩ := HG.out
  rw [HFPC.out] at s6
  by_cases g1 : dt.size < N
  · have g1i : (dt.size : Int) < (N : Int) := by omega
    have HR := HR4 (.inl g1)
    go_wp2_with fail
    refine bodyPost_ret (v := .tuple #[.agg #[.int .i64 0, .int .i64 0, .int .i64 0, .int .i64 0, .int .i64 0, .int .i64 0, .int .i64 0, .int .i64 0, .slice none 0 0], .iface 69 (.int .i64 4)]) (by simp [results, Tryd.results11, go_sem, r0, r1, r2, r3, r4, r5, r6, r7, r8]) rfl (parP_err HR ?_ _ rfl)
    repeat (refine Below.setCell ?_ (by first | (simp; done) | (simp; omega)) _)
    exact HG.out.bel
  have g1i : ¬ (dt.size : Int) < (N : Int) := by omega
  have HTK := hid_of3 (show (dt.extract 0 N).data.toList = dt.data.toList.take N by simp)
  have HTS : Hid ((dt.extract 0 N).size = sizeS s) := by unfold Hid; rw [HN.out, ByteArray.size_extract]; omega
  obtain ⟨q0, HQ0⟩ : ∃ q, Hid (readQ s.kind s.id s.nums (dt.data.toList.take N) = q) := ⟨_, (rfl : _ = _)⟩
  have HQP : Hid (q0.ps = []) := by unfold Hid; rw [← HQ0.out]; rfl
  have hrd := fun X => readS_any s (dt.extract 0 N) X hs1 HTS.out
  rw [HTK.out, HQ0.out] at hrd
  unfold Shp.val opV at hrd
  have HRD := hid_of3 hrd
  clear hrd
  have hN1 : (N : Int) ≤ (dt.size : Int) := by omega
  have hN2 : N ≤ dt.size := by omega
  have hN0 : (0 : Int) ≤ (N : Int) := by omega
  have KEEP : Hid (∀ W', Gpa w nm dt sb s W' → (W'.cell? ⟨w.heap.size, 1, none⟩ = some (.string dt) ∧ W'.cell? ⟨sb, 0, none⟩ = some (.int .i64 (s.kind : Int)) ∧ W'.cell? ⟨sb, 1, none⟩ = some (.string s.bytes) ∧ W'.cell? ⟨sb, 2, none⟩ = some (.bool s.id) ∧ W'.cell? ⟨sb, 3, none⟩ = some (.int .i64 (s.nums : Int)) ∧ W'.cell? ⟨sb, 4, none⟩ = some (.int .i64 s.low) ∧ W'.cell? ⟨sb, 5, none⟩ = some (.int .i64 s.high) ∧ W'.cell? ⟨sb, 6, none⟩ = some (.bool s.pic))) := fun W' h => ⟨h.tt.c1, h.ss.c0, h.ss.c1, h.ss.c2, h.ss.c3, h.ss.c4, h.ss.c5, h.ss.c6⟩
  have HGD := hid_of3 HG.out.drew
  by_cases g2 : N < dt.size ∧ fpc = false
  · have HR := HR4 (.inr g2)
    obtain ⟨g2a, g2b⟩ := g2
    subst g2b
    have g2i : (N : Int) < (dt.size : Int) := by omega
    go_wp2_with fail
    refine bodyPost_ret (v := .tuple #[.agg #[.int .i64 0, .int .i64 0, .int .i64 0, .int .i64 0, .int .i64 0, .int .i64 0, .int .i64 0, .int .i64 0, .slice none 0 0], .iface 69 (.int .i64 4)]) (by simp [results, Tryd.results11, go_sem, r0, r1, r2, r3, r4, r5, r6, r7, r8]) rfl (parP_err HR ?_ _ rfl)
    repeat (refine Below.setCell ?_ (by first | (simp; done) | (simp; omega)) _)
    exact HG.out.bel
  have g3 : (N : Int) < (dt.size : Int) → fpc = true := fun h => by cases fpc; exact absurd ⟨by omega, rfl⟩ g2; rfl
  have HG3 := hid_of3 g3
  have HNC : Hid (¬ (dt.size < N ∨ (N < dt.size ∧ s.pic = false))) := by
    intro h
    rcases h with h | ⟨h, h2⟩
    · exact g1 h
    · rw [HFPC.out] at h2; exact g2 ⟨h, h2⟩
  have HRF : Hid (r = if s.pic = true then (if (parseL (dt.data.toList.drop N)).2.2.2 = 0 then finQ { q0 with pw := ((parseL (dt.data.toList.drop N)).1 : Int), ph := ((parseL (dt.data.toList.drop N)).2.1 : Int), ps := (parseL (dt.data.toList.drop N)).2.2.1 } else (q00, (parseL (dt.data.toList.drop N)).2.2.2)) else finQ q0) := by
    unfold Hid; rw [← HRR.out]; unfold parQ; rw [HOS.out]; simp only
    rw [HN.out, if_neg HNC.out, HQ0.out]
  have hw3 : w.heap.size + 2 ≤ w3.heap.size := by have := HG.out.rr.lt; omega
  have hsb3 := HG.out.ss.lt
  have hgl3 := HG.out.lt
  have hbA : Below w3.drew.heap.size w3.drew (w3.drew.alloc (.cells #[.int .i64 0, .int .i64 0, .int .i64 0, .int .i64 0, .int .i64 0, .int .i64 0, .int .i64 0, .int .i64 0, .slice none 0 0] 26)) := (Below.refl _ _).alloc (Nat.le_refl _) _
  have HGA := hid_of3 (HGD.out.on hbA)
  have HZA := hid_of3 (nine_start w3.drew (.int .i64 0) (.int .i64 0) (.int .i64 0) (.int .i64 0) (.int .i64 0) (.int .i64 0) (.int .i64 0) (.int .i64 0) (.slice none 0 0) 26 w3.heap.size rfl)
  clear g2 g3 HR4 hbA
  by_cases g3i : (N : Int) < (dt.size : Int)
  case pos =>
    obtain rfl := HG3.out g3i
    go_wp2_with fail
    refine wp_region_held_drew (S := (fun W' => W'.cell? ⟨w.heap.size, 1, none⟩ = some (.string dt) ∧ W'.cell? ⟨sb, 0, none⟩ = some (.int .i64 (s.kind : Int)) ∧ W'.cell? ⟨sb, 1, none⟩ = some (.string s.bytes) ∧ W'.cell? ⟨sb, 2, none⟩ = some (.bool s.id) ∧ W'.cell? ⟨sb, 3, none⟩ = some (.int .i64 (s.nums : Int)) ∧ W'.cell? ⟨sb, 4, none⟩ = some (.int .i64 s.low) ∧ W'.cell? ⟨sb, 5, none⟩ = some (.int .i64 s.high) ∧ W'.cell? ⟨sb, 6, none⟩ = some (.bool s.pic))) (by kernel_rfl) ?_ (fun hHeld => ?_)
    · exact KEEP.out _ HGD.out
    refine wpAnyH_take (i := 0) (oi := ({ dst := some 41, op := Op.load 56 (Operand.tmp 4), type := 56, pos := "op.go:97", after := #[], guard := none } : Oper)) (v := ?_) rfl (by kernel_rfl) (by kernel_rfl) (by kernel_rfl) (fun _ _ _ h => h) (Or.inl ⟨by rfl, ?_⟩) (by assumption) ?_
    rotate_left
    · (intro w hSw; (try dsimp only at hSw); go_simp; try with_reducible rfl)
    try simp only [Act.put, List.setIfInBounds_toArray, List.set_cons_zero, List.set_cons_succ]
    refine wpAnyH_take (i := 1) (oi := ({ dst := some 42, op := Op.fieldAddr 30 (Operand.tmp 1) 1, type := 0, pos := "op.go:97", after := #[], guard := none } : Oper)) (v := ?_) rfl (by kernel_rfl) (by kernel_rfl) (by kernel_rfl) (fun _ _ _ h => h) (Or.inl ⟨by rfl, ?_⟩) (by assumption) ?_
    rotate_left
    · (intro w hSw; (try dsimp only at hSw); go_simp; try with_reducible rfl)
    try simp only [Act.put, List.setIfInBounds_toArray, List.set_cons_zero, List.set_cons_succ]
    refine wpAnyH_take (i := 2) (oi := ({ dst := some 43, op := Op.load 9 (Operand.tmp 42), type := 9, pos := "op.go:97", after := #[{ on := 1, ground := Ground.data }], guard := none } : Oper)) (v := ?_) rfl (by kernel_rfl) (by kernel_rfl) (by kernel_rfl) (fun _ _ _ h => h) (Or.inl ⟨by rfl, ?_⟩) (by assumption) ?_
    rotate_left
    · (intro w hSw; (try dsimp only at hSw); go_simp; try with_reducible rfl)
    try simp only [Act.put, List.setIfInBounds_toArray, List.set_cons_zero, List.set_cons_succ]
    refine wpAnyH_take (i := 3) (oi := ({ dst := some 44, op := Op.move (Operand.tmp 6), type := 3, pos := "op.go:97", after := #[], guard := none } : Oper)) (v := ?_) rfl (by kernel_rfl) (by kernel_rfl) (by kernel_rfl) (fun _ _ _ h => h) (Or.inl ⟨by rfl, ?_⟩) (by assumption) ?_
    rotate_left
    · (intro w hSw; (try dsimp only at hSw); go_simp; try with_reducible rfl)
    try simp only [Act.put, List.setIfInBounds_toArray, List.set_cons_zero, List.set_cons_succ]
    refine wpAnyH_take (i := 4) (oi := ({ dst := some 45, op := Op.slice 9 (Operand.tmp 43) none (some (Operand.tmp 44)) none, type := 9, pos := "op.go:97", after := #[{ on := 2, ground := Ground.data }, { on := 3, ground := Ground.data }], guard := none } : Oper)) (v := ?_) rfl (by kernel_rfl) (by kernel_rfl) (by kernel_rfl) (fun _ _ _ h => h) (Or.inl ⟨by rfl, ?_⟩) (by assumption) ?_
    rotate_left
    · (intro w hSw; (try dsimp only at hSw); go_simp; try with_reducible rfl)
    try simp only [Act.put, List.setIfInBounds_toArray, List.set_cons_zero, List.set_cons_succ]
    refine wpAnyH_ready (rs := [5, 6]) (by kernel_rfl) (by simp) ?_
    refine AllReadyH.cons (o := ({ dst := some 46, op := Op.call { callee := Callee.value (Operand.func 31), args := #[Operand.tmp 41, Operand.tmp 45], argTypes := #[56, 9] }, type := 26, pos := "op.go:97", after := #[{ on := 0, ground := Ground.data }, { on := 4, ground := Ground.data }], guard := none } : Oper)) rfl (fun K_ hK => ?_) (AllReadyH.cons (o := ({ dst := some 7, op := Op.alloc 26, type := 0, pos := "op.go:97", after := #[], guard := none } : Oper)) rfl (fun K_ hK => ?_) AllReadyH.nil)
    · go_simp
      refine (HRD.out _).mono ?_
      rintro e w4 ⟨rfl, hb4⟩
      have HG4 := hid_of3 (HGD.out.on hb4)
      try dsimp only
      refine hK.out _ _ ?_ (fun hHeld => ?_)
      · exact KEEP.out _ HG4.out
      clear hK K_
      try simp only [Act.put, List.setIfInBounds_toArray, List.set_cons_zero, List.set_cons_succ]
      refine wpAnyH_ready (rs := [6]) (by kernel_rfl) (by simp) ?_
      refine AllReadyH.cons (o := ({ dst := some 7, op := Op.alloc 26, type := 0, pos := "op.go:97", after := #[], guard := none } : Oper)) rfl (fun K_ hK => ?_) AllReadyH.nil
      go_simp
      refine hK.out _ _ ?_ (fun hHeld => ?_)
      · exact KEEP.out _ (HG4.out.on ((Below.refl _ _).alloc (Nat.le_refl _) _))
      clear hK K_
      try simp only [Act.put, List.setIfInBounds_toArray, List.set_cons_zero, List.set_cons_succ]
      refine wpAnyH_ready (rs := [7]) (by kernel_rfl) (by simp) ?_
      refine AllReadyH.cons (o := ({ dst := none, op := Op.store 26 (Operand.tmp 7) (Operand.tmp 46), type := 0, pos := "op.go:97", after := #[{ on := 6, ground := Ground.data }, { on := 5, ground := Ground.data }, { on := 5, ground := Ground.chain }, { on := 0, ground := Ground.phase }, { on := 1, ground := Ground.phase }, { on := 2, ground := Ground.phase }, { on := 3, ground := Ground.phase }, { on := 4, ground := Ground.phase }, { on := 5, ground := Ground.phase }, { on := 6, ground := Ground.phase }], guard := none } : Oper)) rfl (fun K_ hK => ?_) AllReadyH.nil
      go_simp
      refine hK.out _ _ ?_ (fun hHeld => ?_)
      · exact KEEP.out _ (HG4.out.on ((Below.refl _ _).alloc (Nat.le_refl _) _))
      clear hK K_
      try simp only [Act.put, List.setIfInBounds_toArray, List.set_cons_zero, List.set_cons_succ]
      refine wpAnyH_done (by kernel_rfl) ?_ _
      obtain ⟨Wt, HWT⟩ : ∃ W, Hid (w4.alloc (.cells #[.int .i64 q0.kind, .int .i64 q0.id, .int .i64 q0.a, .int .i64 q0.b, .int .i64 q0.c, .int .i64 q0.d, .int .i64 q0.pw, .int .i64 q0.ph, .slice none 0 0] 26) = W) := ⟨_, (rfl : _ = _)⟩
      have HGT := hid_of3 (HG4.out.on (show Below w4.heap.size w4 (w4.alloc (.cells #[.int .i64 q0.kind, .int .i64 q0.id, .int .i64 q0.a, .int .i64 q0.b, .int .i64 q0.c, .int .i64 q0.d, .int .i64 q0.pw, .int .i64 q0.ph, .slice none 0 0] 26)) from (Below.refl _ _).alloc (Nat.le_refl _) _))
      have HNT := hid_of3 (nine_start w4 (.int .i64 q0.kind) (.int .i64 q0.id) (.int .i64 q0.a) (.int .i64 q0.b) (.int .i64 q0.c) (.int .i64 q0.d) (.int .i64 q0.pw) (.int .i64 q0.ph) (.slice none 0 0) 26 w4.heap.size rfl)
      have hbb : w3.heap.size ≤ w4.heap.size := hb4.size
      obtain ⟨bb, HBB⟩ : ∃ b, Hid (w4.heap.size = b) := ⟨_, (rfl : _ = _)⟩
      rw [HWT.out] at HGT HNT
      rw [HBB.out] at HNT hbb
      rw [HWT.out, HBB.out]
      clear HWT HBB HG4 HGA HZA HGD
      obtain ⟨⟨t0, t1, -, -, -⟩, -, ⟨-, -, -, -, -, -, s6, -, -, -, -, -, -, -, -⟩, -, -, -⟩ := HGT.out
      rw [HFPC.out] at s6
      have HDX := hid_of3 (Lib.extract_to_end dt N)
      obtain ⟨z, HZP⟩ : ∃ z, Hid (parseL (dt.data.toList.drop N) = z) := ⟨_, (rfl : _ = _)⟩
      obtain ⟨PW, PH, ps, pc⟩ := z
      have HZX : Hid (parseL (dt.extract N dt.size).data.toList = (PW, PH, ps, pc)) := by unfold Hid; rw [HDX.out]; exact HZP.out
      go_wp2_with fail
      refine (parseO_any (dt.extract N dt.size) _ (by rw [ByteArray.size_extract]; omega) PW PH pc ps HZX).mono ?_
      rintro e w5 ⟨v5, rfl, ho5, hb5⟩
      have HO5 := hid_of3 ho5
      have HG5 := hid_of3 (HGT.out.on hb5)
      have HN5 := hid_of3 (HNT.out.on hb5)
      have hbtW : bb < Wt.heap.size := HNT.out.lt
      have hbt5 : bb < w5.heap.size := HN5.out.lt
      have hwz5 := HG5.out.bel.size
      obtain ⟨a5, c5, hv5⟩ := own_any ho5
      obtain ⟨n5, HL5⟩ : ∃ n, Hid (ps.length = n) := ⟨_, (rfl : _ = _)⟩
      rw [HL5.out] at hv5
      subst hv5
      clear ho5 hb5 t0 t1 s6
      obtain ⟨r0, r1, r2, r3, r4, r5, r6, r7, r8, rf0, rf1, rf2, rf3, rf4, rf5, rf6, rf7, rf8, rlt⟩ := HG5.out.rr
      by_cases hpc : pc = 0
      case neg =>
        have he : errV pc = .iface 69 (.int .i64 (pc : Int)) := by unfold errV; rw [if_neg hpc]
        rw [he]
        have HR : Hid (r = (q00, pc)) := by unfold Hid; rw [HRF.out, if_pos HFPC.out, HZP.out, if_neg hpc]
        go_wp2_with fail
        refine bodyPost_ret (v := .tuple #[.agg #[.int .i64 0, .int .i64 0, .int .i64 0, .int .i64 0, .int .i64 0, .int .i64 0, .int .i64 0, .int .i64 0, .slice none 0 0], .iface 69 (.int .i64 (pc : Int))]) (by simp [results, Tryd.results11, go_sem, r0, r1, r2, r3, r4, r5, r6, r7, r8, rlt]) rfl (parP_err HR ?_ _ he)
        exact (by (repeat' (first | with_reducible apply Below.setCell | with_reducible apply Below.alloc | with_reducible apply Below.drew)) <;> first | exact HG5.out.bel | (simp; done) | (simp; omega))
      subst hpc
      rw [show errV 0 = .nilIface from rfl]
      obtain ⟨k0, k1, k2, k3, k4, k5, k6, k7, k8, kf0, kf1, kf2, kf3, kf4, kf5, kf6, kf7, kf8, klt⟩ := HN5.out
      clear r0 r1 r2 r3 r4 r5 r6 r7 r8 rf0 rf1 rf2 rf3 rf4 rf5 rf6 rf7 rf8 rlt
      go_wp2_with fail
      obtain ⟨cc, HCC⟩ : ∃ c, Hid (opC ⟨q0.kind, q0.id, q0.a, q0.b, q0.c, q0.d, (PW : Int), (PH : Int), ps⟩ = c) := ⟨_, (rfl : _ = _)⟩
      have HRC : Hid (r = finQ ⟨q0.kind, q0.id, q0.a, q0.b, q0.c, q0.d, (PW : Int), (PH : Int), ps⟩) := by unfold Hid; rw [HRF.out, if_pos HFPC.out, HZP.out, if_pos rfl]
      have hpl : ps.length ≤ 1000000000 := Nat.le_trans (parse_lenP _ _ _ _ _ HZP.out) (by omega)
      have hck := fun X (hS : Shapes X) (hl : 3 < X.heap.size) (hU : RdP X (.slice a5 n5 c5) ps) => opCheck_any ⟨q0.kind, q0.id, q0.a, q0.b, q0.c, q0.d, (PW : Int), (PH : Int), ps⟩ (.slice a5 n5 c5) X hS hl hU hpl cc HCC
      unfold opV at hck
      obtain ⟨W8, HW8⟩ : ∃ W, Hid ((((w5.setCell ⟨bb, 6, none⟩ (.int .i64 (PW : Int))).setCell ⟨bb, 7, none⟩ (.int .i64 (PH : Int))).setCell ⟨bb, 8, none⟩ (.slice a5 n5 c5)).alloc (.cells #[.int .i64 (PW : Int), .int .i64 (PH : Int), .slice a5 n5 c5] 24) = W) := ⟨_, (rfl : _ = _)⟩
      have hbl8 : Below bb w5 W8 := by
        rw [← HW8.out]
        exact (((((Below.refl bb w5).setCell (show bb ≤ (⟨bb, 6, none⟩ : Addr).block from Nat.le_refl _) _).setCell (show bb ≤ (⟨bb, 7, none⟩ : Addr).block from Nat.le_refl _) _).setCell (show bb ≤ (⟨bb, 8, none⟩ : Addr).block from Nat.le_refl _) _)).alloc (by simp; omega) _
      have HG8 := hid_of3 (HG5.out.onB hbl8 (by omega) (by omega) (by omega) (by omega))
      have HN8 := hid_of3 (show Nine W8 bb (.int .i64 q0.kind) (.int .i64 q0.id) (.int .i64 q0.a) (.int .i64 q0.b) (.int .i64 q0.c) (.int .i64 q0.d) (.int .i64 (PW : Int)) (.int .i64 (PH : Int)) (.slice a5 n5 c5) by rw [← HW8.out]; exact (nine_pic HN5.out _ _ _).alloc _)
      have HO8 : Hid (W8.ownsRow (bb + 1) 88 2 (.slice a5 n5 c5) ps.length (pixCells ps)) := by
        rw [← HW8.out]
        refine own_al ?_ _
        exact ownsRow_setCell_below (ownsRow_setCell_below (ownsRow_setCell_below (own_mono HO5.out (show bb + 1 ≤ _ by omega)) (a := ⟨bb, 6, none⟩) (Nat.lt_succ_self _) _) (a := ⟨bb, 7, none⟩) (Nat.lt_succ_self _) _) (a := ⟨bb, 8, none⟩) (Nat.lt_succ_self _) _
      rw [HW8.out]
      refine (hck W8 HG8.out.sh HG8.out.lt (rdP_own HO8.out)).mono ?_
      clear hck k0 k1 k2 k3 k4 k5 k6 k7 k8 kf0 kf1 kf2 kf3 kf4 kf5 kf6 kf7 kf8 klt
      rintro e w9 ⟨rfl, hb9⟩
      have HG9 := hid_of3 (HG8.out.on hb9)
      have HN9 := hid_of3 (HN8.out.on hb9)
      have HO9 := hid_of3 (own_on2 HO8.out hb9)
      clear hb9 HW8
      obtain ⟨r0, r1, r2, r3, r4, r5, r6, r7, r8, rf0, rf1, rf2, rf3, rf4, rf5, rf6, rf7, rf8, rlt⟩ := HG9.out.rr
      by_cases hcc : cc = 0
      case neg =>
        have he : errV cc = .iface 69 (.int .i64 (cc : Int)) := by unfold errV; rw [if_neg hcc]
        rw [he]
        have HR : Hid (r = (q00, cc)) := by unfold Hid; rw [HRC.out]; unfold finQ; rw [HCC.out, if_neg hcc]
        go_wp2_with fail
        refine bodyPost_ret (v := .tuple #[.agg #[.int .i64 0, .int .i64 0, .int .i64 0, .int .i64 0, .int .i64 0, .int .i64 0, .int .i64 0, .int .i64 0, .slice none 0 0], .iface 69 (.int .i64 (cc : Int))]) (by simp [results, Tryd.results11, go_sem, r0, r1, r2, r3, r4, r5, r6, r7, r8]) rfl (parP_err HR ?_ _ he)
        exact (by (repeat' (first | with_reducible apply Below.setCell | with_reducible apply Below.alloc | with_reducible apply Below.drew)) <;> first | exact HG9.out.bel | (simp; done) | (simp; omega))
      subst hcc
      rw [show errV 0 = .nilIface from rfl]
      have HR : Hid (r = (⟨q0.kind, q0.id, q0.a, q0.b, q0.c, q0.d, (PW : Int), (PH : Int), ps⟩, 0)) := by unfold Hid; rw [HRC.out]; unfold finQ; rw [HCC.out, if_pos rfl]
      obtain ⟨k0, k1, k2, k3, k4, k5, k6, k7, k8, kf0, kf1, kf2, kf3, kf4, kf5, kf6, kf7, kf8, klt⟩ := HN9.out
      go_wp2_with fail
      refine bodyPost_ret (v := .tuple #[.agg #[.int .i64 q0.kind, .int .i64 q0.id, .int .i64 q0.a, .int .i64 q0.b, .int .i64 q0.c, .int .i64 q0.d, .int .i64 (PW : Int), .int .i64 (PH : Int), .slice a5 n5 c5], .nilIface]) (by simp [results, Tryd.results11, go_sem, r0, r1, r2, r3, r4, r5, r6, r7, r8]) rfl (parP_ok HR ?_ ?_)
      · exact own_mono (ownsRow_setCell_below (ownsRow_setCell_below (ownsRow_setCell_below (ownsRow_setCell_below (ownsRow_setCell_below (ownsRow_setCell_below (ownsRow_setCell_below (ownsRow_setCell_below (ownsRow_setCell_below HO9.out (a := ⟨w.heap.size + 1, 0, none⟩) (show w.heap.size + 1 < bb + 1 by omega) _) (a := ⟨w.heap.size + 1, 1, none⟩) (show w.heap.size + 1 < bb + 1 by omega) _) (a := ⟨w.heap.size + 1, 2, none⟩) (show w.heap.size + 1 < bb + 1 by omega) _) (a := ⟨w.heap.size + 1, 3, none⟩) (show w.heap.size + 1 < bb + 1 by omega) _) (a := ⟨w.heap.size + 1, 4, none⟩) (show w.heap.size + 1 < bb + 1 by omega) _) (a := ⟨w.heap.size + 1, 5, none⟩) (show w.heap.size + 1 < bb + 1 by omega) _) (a := ⟨w.heap.size + 1, 6, none⟩) (show w.heap.size + 1 < bb + 1 by omega) _) (a := ⟨w.heap.size + 1, 7, none⟩) (show w.heap.size + 1 < bb + 1 by omega) _) (a := ⟨w.heap.size + 1, 8, none⟩) (show w.heap.size + 1 < bb + 1 by omega) _) (by omega)
      · exact (by (repeat' (first | with_reducible apply Below.setCell | with_reducible apply Below.alloc | with_reducible apply Below.drew)) <;> first | exact HG9.out.bel | (simp; done) | (simp; omega))
    · go_simp
      refine hK.out _ _ ?_ (fun hHeld => ?_)
      · exact KEEP.out _ HGA.out
      clear hK K_
      try simp only [Act.put, List.setIfInBounds_toArray, List.set_cons_zero, List.set_cons_succ]
      refine wpAnyH_ready (rs := [5]) (by kernel_rfl) (by simp) ?_
      refine AllReadyH.cons (o := ({ dst := some 46, op := Op.call { callee := Callee.value (Operand.func 31), args := #[Operand.tmp 41, Operand.tmp 45], argTypes := #[56, 9] }, type := 26, pos := "op.go:97", after := #[{ on := 0, ground := Ground.data }, { on := 4, ground := Ground.data }], guard := none } : Oper)) rfl (fun K_ hK => ?_) AllReadyH.nil
      go_simp
      refine (HRD.out _).mono ?_
      rintro e w4 ⟨rfl, hb4⟩
      have HG4 := hid_of3 (HGA.out.on hb4)
      have HZ4 := hid_of3 (HZA.out.on hb4)
      have hsz4 : w3.heap.size ≤ w4.heap.size := by have h4 := hb4.size; simp at h4; omega
      try dsimp only
      refine hK.out _ _ ?_ (fun hHeld => ?_)
      · exact KEEP.out _ HG4.out
      clear hK K_
      try simp only [Act.put, List.setIfInBounds_toArray, List.set_cons_zero, List.set_cons_succ]
      obtain ⟨z0, z1, z2, z3, z4, z5, z6, z7, z8, zf0, zf1, zf2, zf3, zf4, zf5, zf6, zf7, zf8, zlt⟩ := HZ4.out
      refine wpAnyH_ready (rs := [7]) (by kernel_rfl) (by simp) ?_
      refine AllReadyH.cons (o := ({ dst := none, op := Op.store 26 (Operand.tmp 7) (Operand.tmp 46), type := 0, pos := "op.go:97", after := #[{ on := 6, ground := Ground.data }, { on := 5, ground := Ground.data }, { on := 5, ground := Ground.chain }, { on := 0, ground := Ground.phase }, { on := 1, ground := Ground.phase }, { on := 2, ground := Ground.phase }, { on := 3, ground := Ground.phase }, { on := 4, ground := Ground.phase }, { on := 5, ground := Ground.phase }, { on := 6, ground := Ground.phase }], guard := none } : Oper)) rfl (fun K_ hK => ?_) AllReadyH.nil
      go_simp
      refine hK.out _ _ ?_ (fun hHeld => ?_)
      · exact KEEP.out _ (HG4.out.onB (B := w3.heap.size) (by (repeat (refine Below.setCell ?_ (by simp) _)); exact Below.refl _ _) hsz4 hw3 hsb3 hgl3)
      clear hK K_
      try simp only [Act.put, List.setIfInBounds_toArray, List.set_cons_zero, List.set_cons_succ]
      refine wpAnyH_done (by kernel_rfl) ?_ _
      obtain ⟨Wt, HWT⟩ : ∃ W, Hid ((((((((((w4.setCell ⟨w3.heap.size, 0, none⟩ (.int .i64 q0.kind)).setCell ⟨w3.heap.size, 1, none⟩ (.int .i64 q0.id)).setCell ⟨w3.heap.size, 2, none⟩ (.int .i64 q0.a)).setCell ⟨w3.heap.size, 3, none⟩ (.int .i64 q0.b)).setCell ⟨w3.heap.size, 4, none⟩ (.int .i64 q0.c)).setCell ⟨w3.heap.size, 5, none⟩ (.int .i64 q0.d)).setCell ⟨w3.heap.size, 6, none⟩ (.int .i64 q0.pw)).setCell ⟨w3.heap.size, 7, none⟩ (.int .i64 q0.ph)).setCell ⟨w3.heap.size, 8, none⟩ (.slice none 0 0)) = W) := ⟨_, (rfl : _ = _)⟩
      have HGT : Hid (Gpa w nm dt sb s Wt) := by
        rw [← HWT.out]
        exact HG4.out.onB (B := w3.heap.size) (by (repeat (refine Below.setCell ?_ (by simp) _)); exact Below.refl _ _) hsz4 hw3 hsb3 hgl3
      have HNT : Hid (Nine Wt w3.heap.size (.int .i64 q0.kind) (.int .i64 q0.id) (.int .i64 q0.a) (.int .i64 q0.b) (.int .i64 q0.c) (.int .i64 q0.d) (.int .i64 q0.pw) (.int .i64 q0.ph) (.slice none 0 0)) := by rw [← HWT.out]; exact nine_all HZ4.out _ _ _ _ _ _ _ _ _
      obtain ⟨bb, HBB⟩ : ∃ b, Hid (w3.heap.size = b) := ⟨_, (rfl : _ = _)⟩
      have hbb : w3.heap.size ≤ bb := Nat.le_of_eq HBB.out
      rw [HBB.out] at HNT
      rw [HWT.out, HBB.out]
      clear HWT HBB HG4 HGA HZA HGD HZ4 z0 z1 z2 z3 z4 z5 z6 z7 z8 zf0 zf1 zf2 zf3 zf4 zf5 zf6 zf7 zf8 zlt
      obtain ⟨⟨t0, t1, -, -, -⟩, -, ⟨-, -, -, -, -, -, s6, -, -, -, -, -, -, -, -⟩, -, -, -⟩ := HGT.out
      rw [HFPC.out] at s6
      have HDX := hid_of3 (Lib.extract_to_end dt N)
      obtain ⟨z, HZP⟩ : ∃ z, Hid (parseL (dt.data.toList.drop N) = z) := ⟨_, (rfl : _ = _)⟩
      obtain ⟨PW, PH, ps, pc⟩ := z
      have HZX : Hid (parseL (dt.extract N dt.size).data.toList = (PW, PH, ps, pc)) := by unfold Hid; rw [HDX.out]; exact HZP.out
      go_wp2_with fail
      refine (parseO_any (dt.extract N dt.size) _ (by rw [ByteArray.size_extract]; omega) PW PH pc ps HZX).mono ?_
      rintro e w5 ⟨v5, rfl, ho5, hb5⟩
      have HO5 := hid_of3 ho5
      have HG5 := hid_of3 (HGT.out.on hb5)
      have HN5 := hid_of3 (HNT.out.on hb5)
      have hbtW : bb < Wt.heap.size := HNT.out.lt
      have hbt5 : bb < w5.heap.size := HN5.out.lt
      have hwz5 := HG5.out.bel.size
      obtain ⟨a5, c5, hv5⟩ := own_any ho5
      obtain ⟨n5, HL5⟩ : ∃ n, Hid (ps.length = n) := ⟨_, (rfl : _ = _)⟩
      rw [HL5.out] at hv5
      subst hv5
      clear ho5 hb5 t0 t1 s6
      obtain ⟨r0, r1, r2, r3, r4, r5, r6, r7, r8, rf0, rf1, rf2, rf3, rf4, rf5, rf6, rf7, rf8, rlt⟩ := HG5.out.rr
      by_cases hpc : pc = 0
      case neg =>
        have he : errV pc = .iface 69 (.int .i64 (pc : Int)) := by unfold errV; rw [if_neg hpc]
        rw [he]
        have HR : Hid (r = (q00, pc)) := by unfold Hid; rw [HRF.out, if_pos HFPC.out, HZP.out, if_neg hpc]
        go_wp2_with fail
        refine bodyPost_ret (v := .tuple #[.agg #[.int .i64 0, .int .i64 0, .int .i64 0, .int .i64 0, .int .i64 0, .int .i64 0, .int .i64 0, .int .i64 0, .slice none 0 0], .iface 69 (.int .i64 (pc : Int))]) (by simp [results, Tryd.results11, go_sem, r0, r1, r2, r3, r4, r5, r6, r7, r8, rlt]) rfl (parP_err HR ?_ _ he)
        exact (by (repeat' (first | with_reducible apply Below.setCell | with_reducible apply Below.alloc | with_reducible apply Below.drew)) <;> first | exact HG5.out.bel | (simp; done) | (simp; omega))
      subst hpc
      rw [show errV 0 = .nilIface from rfl]
      obtain ⟨k0, k1, k2, k3, k4, k5, k6, k7, k8, kf0, kf1, kf2, kf3, kf4, kf5, kf6, kf7, kf8, klt⟩ := HN5.out
      clear r0 r1 r2 r3 r4 r5 r6 r7 r8 rf0 rf1 rf2 rf3 rf4 rf5 rf6 rf7 rf8 rlt
      go_wp2_with fail
      obtain ⟨cc, HCC⟩ : ∃ c, Hid (opC ⟨q0.kind, q0.id, q0.a, q0.b, q0.c, q0.d, (PW : Int), (PH : Int), ps⟩ = c) := ⟨_, (rfl : _ = _)⟩
      have HRC : Hid (r = finQ ⟨q0.kind, q0.id, q0.a, q0.b, q0.c, q0.d, (PW : Int), (PH : Int), ps⟩) := by unfold Hid; rw [HRF.out, if_pos HFPC.out, HZP.out, if_pos rfl]
      have hpl : ps.length ≤ 1000000000 := Nat.le_trans (parse_lenP _ _ _ _ _ HZP.out) (by omega)
      have hck := fun X (hS : Shapes X) (hl : 3 < X.heap.size) (hU : RdP X (.slice a5 n5 c5) ps) => opCheck_any ⟨q0.kind, q0.id, q0.a, q0.b, q0.c, q0.d, (PW : Int), (PH : Int), ps⟩ (.slice a5 n5 c5) X hS hl hU hpl cc HCC
      unfold opV at hck
      obtain ⟨W8, HW8⟩ : ∃ W, Hid ((((w5.setCell ⟨bb, 6, none⟩ (.int .i64 (PW : Int))).setCell ⟨bb, 7, none⟩ (.int .i64 (PH : Int))).setCell ⟨bb, 8, none⟩ (.slice a5 n5 c5)).alloc (.cells #[.int .i64 (PW : Int), .int .i64 (PH : Int), .slice a5 n5 c5] 24) = W) := ⟨_, (rfl : _ = _)⟩
      have hbl8 : Below bb w5 W8 := by
        rw [← HW8.out]
        exact (((((Below.refl bb w5).setCell (show bb ≤ (⟨bb, 6, none⟩ : Addr).block from Nat.le_refl _) _).setCell (show bb ≤ (⟨bb, 7, none⟩ : Addr).block from Nat.le_refl _) _).setCell (show bb ≤ (⟨bb, 8, none⟩ : Addr).block from Nat.le_refl _) _)).alloc (by simp; omega) _
      have HG8 := hid_of3 (HG5.out.onB hbl8 (by omega) (by omega) (by omega) (by omega))
      have HN8 := hid_of3 (show Nine W8 bb (.int .i64 q0.kind) (.int .i64 q0.id) (.int .i64 q0.a) (.int .i64 q0.b) (.int .i64 q0.c) (.int .i64 q0.d) (.int .i64 (PW : Int)) (.int .i64 (PH : Int)) (.slice a5 n5 c5) by rw [← HW8.out]; exact (nine_pic HN5.out _ _ _).alloc _)
      have HO8 : Hid (W8.ownsRow (bb + 1) 88 2 (.slice a5 n5 c5) ps.length (pixCells ps)) := by
        rw [← HW8.out]
        refine own_al ?_ _
        exact ownsRow_setCell_below (ownsRow_setCell_below (ownsRow_setCell_below (own_mono HO5.out (show bb + 1 ≤ _ by omega)) (a := ⟨bb, 6, none⟩) (Nat.lt_succ_self _) _) (a := ⟨bb, 7, none⟩) (Nat.lt_succ_self _) _) (a := ⟨bb, 8, none⟩) (Nat.lt_succ_self _) _
      rw [HW8.out]
      refine (hck W8 HG8.out.sh HG8.out.lt (rdP_own HO8.out)).mono ?_
      clear hck k0 k1 k2 k3 k4 k5 k6 k7 k8 kf0 kf1 kf2 kf3 kf4 kf5 kf6 kf7 kf8 klt
      rintro e w9 ⟨rfl, hb9⟩
      have HG9 := hid_of3 (HG8.out.on hb9)
      have HN9 := hid_of3 (HN8.out.on hb9)
      have HO9 := hid_of3 (own_on2 HO8.out hb9)
      clear hb9 HW8
      obtain ⟨r0, r1, r2, r3, r4, r5, r6, r7, r8, rf0, rf1, rf2, rf3, rf4, rf5, rf6, rf7, rf8, rlt⟩ := HG9.out.rr
      by_cases hcc : cc = 0
      case neg =>
        have he : errV cc = .iface 69 (.int .i64 (cc : Int)) := by unfold errV; rw [if_neg hcc]
        rw [he]
        have HR : Hid (r = (q00, cc)) := by unfold Hid; rw [HRC.out]; unfold finQ; rw [HCC.out, if_neg hcc]
        go_wp2_with fail
        refine bodyPost_ret (v := .tuple #[.agg #[.int .i64 0, .int .i64 0, .int .i64 0, .int .i64 0, .int .i64 0, .int .i64 0, .int .i64 0, .int .i64 0, .slice none 0 0], .iface 69 (.int .i64 (cc : Int))]) (by simp [results, Tryd.results11, go_sem, r0, r1, r2, r3, r4, r5, r6, r7, r8]) rfl (parP_err HR ?_ _ he)
        exact (by (repeat' (first | with_reducible apply Below.setCell | with_reducible apply Below.alloc | with_reducible apply Below.drew)) <;> first | exact HG9.out.bel | (simp; done) | (simp; omega))
      subst hcc
      rw [show errV 0 = .nilIface from rfl]
      have HR : Hid (r = (⟨q0.kind, q0.id, q0.a, q0.b, q0.c, q0.d, (PW : Int), (PH : Int), ps⟩, 0)) := by unfold Hid; rw [HRC.out]; unfold finQ; rw [HCC.out, if_pos rfl]
      obtain ⟨k0, k1, k2, k3, k4, k5, k6, k7, k8, kf0, kf1, kf2, kf3, kf4, kf5, kf6, kf7, kf8, klt⟩ := HN9.out
      go_wp2_with fail
      refine bodyPost_ret (v := .tuple #[.agg #[.int .i64 q0.kind, .int .i64 q0.id, .int .i64 q0.a, .int .i64 q0.b, .int .i64 q0.c, .int .i64 q0.d, .int .i64 (PW : Int), .int .i64 (PH : Int), .slice a5 n5 c5], .nilIface]) (by simp [results, Tryd.results11, go_sem, r0, r1, r2, r3, r4, r5, r6, r7, r8]) rfl (parP_ok HR ?_ ?_)
      · exact own_mono (ownsRow_setCell_below (ownsRow_setCell_below (ownsRow_setCell_below (ownsRow_setCell_below (ownsRow_setCell_below (ownsRow_setCell_below (ownsRow_setCell_below (ownsRow_setCell_below (ownsRow_setCell_below HO9.out (a := ⟨w.heap.size + 1, 0, none⟩) (show w.heap.size + 1 < bb + 1 by omega) _) (a := ⟨w.heap.size + 1, 1, none⟩) (show w.heap.size + 1 < bb + 1 by omega) _) (a := ⟨w.heap.size + 1, 2, none⟩) (show w.heap.size + 1 < bb + 1 by omega) _) (a := ⟨w.heap.size + 1, 3, none⟩) (show w.heap.size + 1 < bb + 1 by omega) _) (a := ⟨w.heap.size + 1, 4, none⟩) (show w.heap.size + 1 < bb + 1 by omega) _) (a := ⟨w.heap.size + 1, 5, none⟩) (show w.heap.size + 1 < bb + 1 by omega) _) (a := ⟨w.heap.size + 1, 6, none⟩) (show w.heap.size + 1 < bb + 1 by omega) _) (a := ⟨w.heap.size + 1, 7, none⟩) (show w.heap.size + 1 < bb + 1 by omega) _) (a := ⟨w.heap.size + 1, 8, none⟩) (show w.heap.size + 1 < bb + 1 by omega) _) (by omega)
      · exact (by (repeat' (first | with_reducible apply Below.setCell | with_reducible apply Below.alloc | with_reducible apply Below.drew)) <;> first | exact HG9.out.bel | (simp; done) | (simp; omega))
  go_wp2_with fail
  refine wp_region_held_drew (S := (fun W' => W'.cell? ⟨w.heap.size, 1, none⟩ = some (.string dt) ∧ W'.cell? ⟨sb, 0, none⟩ = some (.int .i64 (s.kind : Int)) ∧ W'.cell? ⟨sb, 1, none⟩ = some (.string s.bytes) ∧ W'.cell? ⟨sb, 2, none⟩ = some (.bool s.id) ∧ W'.cell? ⟨sb, 3, none⟩ = some (.int .i64 (s.nums : Int)) ∧ W'.cell? ⟨sb, 4, none⟩ = some (.int .i64 s.low) ∧ W'.cell? ⟨sb, 5, none⟩ = some (.int .i64 s.high) ∧ W'.cell? ⟨sb, 6, none⟩ = some (.bool s.pic))) (by kernel_rfl) ?_ (fun hHeld => ?_)
  · exact KEEP.out _ HGD.out
  refine wpAnyH_take (i := 0) (oi := ({ dst := some 41, op := Op.load 56 (Operand.tmp 4), type := 56, pos := "op.go:97", after := #[], guard := none } : Oper)) (v := ?_) rfl (by kernel_rfl) (by kernel_rfl) (by kernel_rfl) (fun _ _ _ h => h) (Or.inl ⟨by rfl, ?_⟩) (by assumption) ?_
  rotate_left
  · (intro w hSw; (try dsimp only at hSw); go_simp; try with_reducible rfl)
  try simp only [Act.put, List.setIfInBounds_toArray, List.set_cons_zero, List.set_cons_succ]
  refine wpAnyH_take (i := 1) (oi := ({ dst := some 42, op := Op.fieldAddr 30 (Operand.tmp 1) 1, type := 0, pos := "op.go:97", after := #[], guard := none } : Oper)) (v := ?_) rfl (by kernel_rfl) (by kernel_rfl) (by kernel_rfl) (fun _ _ _ h => h) (Or.inl ⟨by rfl, ?_⟩) (by assumption) ?_
  rotate_left
  · (intro w hSw; (try dsimp only at hSw); go_simp; try with_reducible rfl)
  try simp only [Act.put, List.setIfInBounds_toArray, List.set_cons_zero, List.set_cons_succ]
  refine wpAnyH_take (i := 2) (oi := ({ dst := some 43, op := Op.load 9 (Operand.tmp 42), type := 9, pos := "op.go:97", after := #[{ on := 1, ground := Ground.data }], guard := none } : Oper)) (v := ?_) rfl (by kernel_rfl) (by kernel_rfl) (by kernel_rfl) (fun _ _ _ h => h) (Or.inl ⟨by rfl, ?_⟩) (by assumption) ?_
  rotate_left
  · (intro w hSw; (try dsimp only at hSw); go_simp; try with_reducible rfl)
  try simp only [Act.put, List.setIfInBounds_toArray, List.set_cons_zero, List.set_cons_succ]
  refine wpAnyH_take (i := 3) (oi := ({ dst := some 44, op := Op.move (Operand.tmp 6), type := 3, pos := "op.go:97", after := #[], guard := none } : Oper)) (v := ?_) rfl (by kernel_rfl) (by kernel_rfl) (by kernel_rfl) (fun _ _ _ h => h) (Or.inl ⟨by rfl, ?_⟩) (by assumption) ?_
  rotate_left
  · (intro w hSw; (try dsimp only at hSw); go_simp; try with_reducible rfl)
  try simp only [Act.put, List.setIfInBounds_toArray, List.set_cons_zero, List.set_cons_succ]
  refine wpAnyH_take (i := 4) (oi := ({ dst := some 45, op := Op.slice 9 (Operand.tmp 43) none (some (Operand.tmp 44)) none, type := 9, pos := "op.go:97", after := #[{ on := 2, ground := Ground.data }, { on := 3, ground := Ground.data }], guard := none } : Oper)) (v := ?_) rfl (by kernel_rfl) (by kernel_rfl) (by kernel_rfl) (fun _ _ _ h => h) (Or.inl ⟨by rfl, ?_⟩) (by assumption) ?_
  rotate_left
  · (intro w hSw; (try dsimp only at hSw); go_simp; try with_reducible rfl)
  try simp only [Act.put, List.setIfInBounds_toArray, List.set_cons_zero, List.set_cons_succ]
  refine wpAnyH_ready (rs := [5, 6]) (by kernel_rfl) (by simp) ?_
  refine AllReadyH.cons (o := ({ dst := some 46, op := Op.call { callee := Callee.value (Operand.func 31), args := #[Operand.tmp 41, Operand.tmp 45], argTypes := #[56, 9] }, type := 26, pos := "op.go:97", after := #[{ on := 0, ground := Ground.data }, { on := 4, ground := Ground.data }], guard := none } : Oper)) rfl (fun K_ hK => ?_) (AllReadyH.cons (o := ({ dst := some 7, op := Op.alloc 26, type := 0, pos := "op.go:97", after := #[], guard := none } : Oper)) rfl (fun K_ hK => ?_) AllReadyH.nil)
  · go_simp
    refine (HRD.out _).mono ?_
    rintro e w4 ⟨rfl, hb4⟩
    have HG4 := hid_of3 (HGD.out.on hb4)
    try dsimp only
    refine hK.out _ _ ?_ (fun hHeld => ?_)
    · exact KEEP.out _ HG4.out
    clear hK K_
    try simp only [Act.put, List.setIfInBounds_toArray, List.set_cons_zero, List.set_cons_succ]
    refine wpAnyH_ready (rs := [6]) (by kernel_rfl) (by simp) ?_
    refine AllReadyH.cons (o := ({ dst := some 7, op := Op.alloc 26, type := 0, pos := "op.go:97", after := #[], guard := none } : Oper)) rfl (fun K_ hK => ?_) AllReadyH.nil
    go_simp
    refine hK.out _ _ ?_ (fun hHeld => ?_)
    · exact KEEP.out _ (HG4.out.on ((Below.refl _ _).alloc (Nat.le_refl _) _))
    clear hK K_
    try simp only [Act.put, List.setIfInBounds_toArray, List.set_cons_zero, List.set_cons_succ]
    refine wpAnyH_ready (rs := [7]) (by kernel_rfl) (by simp) ?_
    refine AllReadyH.cons (o := ({ dst := none, op := Op.store 26 (Operand.tmp 7) (Operand.tmp 46), type := 0, pos := "op.go:97", after := #[{ on := 6, ground := Ground.data }, { on := 5, ground := Ground.data }, { on := 5, ground := Ground.chain }, { on := 0, ground := Ground.phase }, { on := 1, ground := Ground.phase }, { on := 2, ground := Ground.phase }, { on := 3, ground := Ground.phase }, { on := 4, ground := Ground.phase }, { on := 5, ground := Ground.phase }, { on := 6, ground := Ground.phase }], guard := none } : Oper)) rfl (fun K_ hK => ?_) AllReadyH.nil
    go_simp
    refine hK.out _ _ ?_ (fun hHeld => ?_)
    · exact KEEP.out _ (HG4.out.on ((Below.refl _ _).alloc (Nat.le_refl _) _))
    clear hK K_
    try simp only [Act.put, List.setIfInBounds_toArray, List.set_cons_zero, List.set_cons_succ]
    refine wpAnyH_done (by kernel_rfl) ?_ _
    obtain ⟨Wt, HWT⟩ : ∃ W, Hid (w4.alloc (.cells #[.int .i64 q0.kind, .int .i64 q0.id, .int .i64 q0.a, .int .i64 q0.b, .int .i64 q0.c, .int .i64 q0.d, .int .i64 q0.pw, .int .i64 q0.ph, .slice none 0 0] 26) = W) := ⟨_, (rfl : _ = _)⟩
    have HGT := hid_of3 (HG4.out.on (show Below w4.heap.size w4 (w4.alloc (.cells #[.int .i64 q0.kind, .int .i64 q0.id, .int .i64 q0.a, .int .i64 q0.b, .int .i64 q0.c, .int .i64 q0.d, .int .i64 q0.pw, .int .i64 q0.ph, .slice none 0 0] 26)) from (Below.refl _ _).alloc (Nat.le_refl _) _))
    have HNT := hid_of3 (nine_start w4 (.int .i64 q0.kind) (.int .i64 q0.id) (.int .i64 q0.a) (.int .i64 q0.b) (.int .i64 q0.c) (.int .i64 q0.d) (.int .i64 q0.pw) (.int .i64 q0.ph) (.slice none 0 0) 26 w4.heap.size rfl)
    have hbb : w3.heap.size ≤ w4.heap.size := hb4.size
    obtain ⟨bb, HBB⟩ : ∃ b, Hid (w4.heap.size = b) := ⟨_, (rfl : _ = _)⟩
    rw [HWT.out] at HGT HNT
    rw [HBB.out] at HNT hbb
    rw [HWT.out, HBB.out]
    clear HWT HBB HG4 HGA HZA HGD
    cases fpc with
    | true =>
      obtain ⟨⟨t0, t1, -, -, -⟩, -, ⟨-, -, -, -, -, -, s6, -, -, -, -, -, -, -, -⟩, -, -, -⟩ := HGT.out
      rw [HFPC.out] at s6
      have HDX := hid_of3 (Lib.extract_to_end dt N)
      obtain ⟨z, HZP⟩ : ∃ z, Hid (parseL (dt.data.toList.drop N) = z) := ⟨_, (rfl : _ = _)⟩
      obtain ⟨PW, PH, ps, pc⟩ := z
      have HZX : Hid (parseL (dt.extract N dt.size).data.toList = (PW, PH, ps, pc)) := by unfold Hid; rw [HDX.out]; exact HZP.out
      go_wp2_with fail
      refine (parseO_any (dt.extract N dt.size) _ (by rw [ByteArray.size_extract]; omega) PW PH pc ps HZX).mono ?_
      rintro e w5 ⟨v5, rfl, ho5, hb5⟩
      have HO5 := hid_of3 ho5
      have HG5 := hid_of3 (HGT.out.on hb5)
      have HN5 := hid_of3 (HNT.out.on hb5)
      have hbtW : bb < Wt.heap.size := HNT.out.lt
      have hbt5 : bb < w5.heap.size := HN5.out.lt
      have hwz5 := HG5.out.bel.size
      obtain ⟨a5, c5, hv5⟩ := own_any ho5
      obtain ⟨n5, HL5⟩ : ∃ n, Hid (ps.length = n) := ⟨_, (rfl : _ = _)⟩
      rw [HL5.out] at hv5
      subst hv5
      clear ho5 hb5 t0 t1 s6
      obtain ⟨r0, r1, r2, r3, r4, r5, r6, r7, r8, rf0, rf1, rf2, rf3, rf4, rf5, rf6, rf7, rf8, rlt⟩ := HG5.out.rr
      by_cases hpc : pc = 0
      case neg =>
        have he : errV pc = .iface 69 (.int .i64 (pc : Int)) := by unfold errV; rw [if_neg hpc]
        rw [he]
        have HR : Hid (r = (q00, pc)) := by unfold Hid; rw [HRF.out, if_pos HFPC.out, HZP.out, if_neg hpc]
        go_wp2_with fail
        refine bodyPost_ret (v := .tuple #[.agg #[.int .i64 0, .int .i64 0, .int .i64 0, .int .i64 0, .int .i64 0, .int .i64 0, .int .i64 0, .int .i64 0, .slice none 0 0], .iface 69 (.int .i64 (pc : Int))]) (by simp [results, Tryd.results11, go_sem, r0, r1, r2, r3, r4, r5, r6, r7, r8, rlt]) rfl (parP_err HR ?_ _ he)
        exact (by (repeat' (first | with_reducible apply Below.setCell | with_reducible apply Below.alloc | with_reducible apply Below.drew)) <;> first | exact HG5.out.bel | (simp; done) | (simp; omega))
      subst hpc
      rw [show errV 0 = .nilIface from rfl]
      obtain ⟨k0, k1, k2, k3, k4, k5, k6, k7, k8, kf0, kf1, kf2, kf3, kf4, kf5, kf6, kf7, kf8, klt⟩ := HN5.out
      clear r0 r1 r2 r3 r4 r5 r6 r7 r8 rf0 rf1 rf2 rf3 rf4 rf5 rf6 rf7 rf8 rlt
      go_wp2_with fail
      obtain ⟨cc, HCC⟩ : ∃ c, Hid (opC ⟨q0.kind, q0.id, q0.a, q0.b, q0.c, q0.d, (PW : Int), (PH : Int), ps⟩ = c) := ⟨_, (rfl : _ = _)⟩
      have HRC : Hid (r = finQ ⟨q0.kind, q0.id, q0.a, q0.b, q0.c, q0.d, (PW : Int), (PH : Int), ps⟩) := by unfold Hid; rw [HRF.out, if_pos HFPC.out, HZP.out, if_pos rfl]
      have hpl : ps.length ≤ 1000000000 := Nat.le_trans (parse_lenP _ _ _ _ _ HZP.out) (by omega)
      have hck := fun X (hS : Shapes X) (hl : 3 < X.heap.size) (hU : RdP X (.slice a5 n5 c5) ps) => opCheck_any ⟨q0.kind, q0.id, q0.a, q0.b, q0.c, q0.d, (PW : Int), (PH : Int), ps⟩ (.slice a5 n5 c5) X hS hl hU hpl cc HCC
      unfold opV at hck
      obtain ⟨W8, HW8⟩ : ∃ W, Hid ((((w5.setCell ⟨bb, 6, none⟩ (.int .i64 (PW : Int))).setCell ⟨bb, 7, none⟩ (.int .i64 (PH : Int))).setCell ⟨bb, 8, none⟩ (.slice a5 n5 c5)).alloc (.cells #[.int .i64 (PW : Int), .int .i64 (PH : Int), .slice a5 n5 c5] 24) = W) := ⟨_, (rfl : _ = _)⟩
      have hbl8 : Below bb w5 W8 := by
        rw [← HW8.out]
        exact (((((Below.refl bb w5).setCell (show bb ≤ (⟨bb, 6, none⟩ : Addr).block from Nat.le_refl _) _).setCell (show bb ≤ (⟨bb, 7, none⟩ : Addr).block from Nat.le_refl _) _).setCell (show bb ≤ (⟨bb, 8, none⟩ : Addr).block from Nat.le_refl _) _)).alloc (by simp; omega) _
      have HG8 := hid_of3 (HG5.out.onB hbl8 (by omega) (by omega) (by omega) (by omega))
      have HN8 := hid_of3 (show Nine W8 bb (.int .i64 q0.kind) (.int .i64 q0.id) (.int .i64 q0.a) (.int .i64 q0.b) (.int .i64 q0.c) (.int .i64 q0.d) (.int .i64 (PW : Int)) (.int .i64 (PH : Int)) (.slice a5 n5 c5) by rw [← HW8.out]; exact (nine_pic HN5.out _ _ _).alloc _)
      have HO8 : Hid (W8.ownsRow (bb + 1) 88 2 (.slice a5 n5 c5) ps.length (pixCells ps)) := by
        rw [← HW8.out]
        refine own_al ?_ _
        exact ownsRow_setCell_below (ownsRow_setCell_below (ownsRow_setCell_below (own_mono HO5.out (show bb + 1 ≤ _ by omega)) (a := ⟨bb, 6, none⟩) (Nat.lt_succ_self _) _) (a := ⟨bb, 7, none⟩) (Nat.lt_succ_self _) _) (a := ⟨bb, 8, none⟩) (Nat.lt_succ_self _) _
      rw [HW8.out]
      refine (hck W8 HG8.out.sh HG8.out.lt (rdP_own HO8.out)).mono ?_
      clear hck k0 k1 k2 k3 k4 k5 k6 k7 k8 kf0 kf1 kf2 kf3 kf4 kf5 kf6 kf7 kf8 klt
      rintro e w9 ⟨rfl, hb9⟩
      have HG9 := hid_of3 (HG8.out.on hb9)
      have HN9 := hid_of3 (HN8.out.on hb9)
      have HO9 := hid_of3 (own_on2 HO8.out hb9)
      clear hb9 HW8
      obtain ⟨r0, r1, r2, r3, r4, r5, r6, r7, r8, rf0, rf1, rf2, rf3, rf4, rf5, rf6, rf7, rf8, rlt⟩ := HG9.out.rr
      by_cases hcc : cc = 0
      case neg =>
        have he : errV cc = .iface 69 (.int .i64 (cc : Int)) := by unfold errV; rw [if_neg hcc]
        rw [he]
        have HR : Hid (r = (q00, cc)) := by unfold Hid; rw [HRC.out]; unfold finQ; rw [HCC.out, if_neg hcc]
        go_wp2_with fail
        refine bodyPost_ret (v := .tuple #[.agg #[.int .i64 0, .int .i64 0, .int .i64 0, .int .i64 0, .int .i64 0, .int .i64 0, .int .i64 0, .int .i64 0, .slice none 0 0], .iface 69 (.int .i64 (cc : Int))]) (by simp [results, Tryd.results11, go_sem, r0, r1, r2, r3, r4, r5, r6, r7, r8]) rfl (parP_err HR ?_ _ he)
        exact (by (repeat' (first | with_reducible apply Below.setCell | with_reducible apply Below.alloc | with_reducible apply Below.drew)) <;> first | exact HG9.out.bel | (simp; done) | (simp; omega))
      subst hcc
      rw [show errV 0 = .nilIface from rfl]
      have HR : Hid (r = (⟨q0.kind, q0.id, q0.a, q0.b, q0.c, q0.d, (PW : Int), (PH : Int), ps⟩, 0)) := by unfold Hid; rw [HRC.out]; unfold finQ; rw [HCC.out, if_pos rfl]
      obtain ⟨k0, k1, k2, k3, k4, k5, k6, k7, k8, kf0, kf1, kf2, kf3, kf4, kf5, kf6, kf7, kf8, klt⟩ := HN9.out
      go_wp2_with fail
      refine bodyPost_ret (v := .tuple #[.agg #[.int .i64 q0.kind, .int .i64 q0.id, .int .i64 q0.a, .int .i64 q0.b, .int .i64 q0.c, .int .i64 q0.d, .int .i64 (PW : Int), .int .i64 (PH : Int), .slice a5 n5 c5], .nilIface]) (by simp [results, Tryd.results11, go_sem, r0, r1, r2, r3, r4, r5, r6, r7, r8]) rfl (parP_ok HR ?_ ?_)
      · exact own_mono (ownsRow_setCell_below (ownsRow_setCell_below (ownsRow_setCell_below (ownsRow_setCell_below (ownsRow_setCell_below (ownsRow_setCell_below (ownsRow_setCell_below (ownsRow_setCell_below (ownsRow_setCell_below HO9.out (a := ⟨w.heap.size + 1, 0, none⟩) (show w.heap.size + 1 < bb + 1 by omega) _) (a := ⟨w.heap.size + 1, 1, none⟩) (show w.heap.size + 1 < bb + 1 by omega) _) (a := ⟨w.heap.size + 1, 2, none⟩) (show w.heap.size + 1 < bb + 1 by omega) _) (a := ⟨w.heap.size + 1, 3, none⟩) (show w.heap.size + 1 < bb + 1 by omega) _) (a := ⟨w.heap.size + 1, 4, none⟩) (show w.heap.size + 1 < bb + 1 by omega) _) (a := ⟨w.heap.size + 1, 5, none⟩) (show w.heap.size + 1 < bb + 1 by omega) _) (a := ⟨w.heap.size + 1, 6, none⟩) (show w.heap.size + 1 < bb + 1 by omega) _) (a := ⟨w.heap.size + 1, 7, none⟩) (show w.heap.size + 1 < bb + 1 by omega) _) (a := ⟨w.heap.size + 1, 8, none⟩) (show w.heap.size + 1 < bb + 1 by omega) _) (by omega)
      · exact (by (repeat' (first | with_reducible apply Below.setCell | with_reducible apply Below.alloc | with_reducible apply Below.drew)) <;> first | exact HG9.out.bel | (simp; done) | (simp; omega))
    | false =>
      obtain ⟨-, -, ⟨-, -, -, -, -, -, s6, -, -, -, -, -, -, -, -⟩, -, -, -⟩ := HGT.out
      rw [HFPC.out] at s6
      have hbtW : bb < Wt.heap.size := HNT.out.lt
      obtain ⟨k0, k1, k2, k3, k4, k5, k6, k7, k8, kf0, kf1, kf2, kf3, kf4, kf5, kf6, kf7, kf8, klt⟩ := HNT.out
      go_wp2_with fail
      obtain ⟨cc, HCC⟩ : ∃ c, Hid (opC q0 = c) := ⟨_, (rfl : _ = _)⟩
      have HRC : Hid (r = finQ q0) := by unfold Hid; rw [HRF.out, if_neg (by rw [HFPC.out]; decide)]
      have hnil : Hid (RdP Wt (.slice none 0 0) q0.ps) := by unfold Hid; rw [HQP.out]; exact rdP_nil _
      have hck := opCheck_any q0 (.slice none 0 0) Wt HGT.out.sh HGT.out.lt hnil (by rw [HQP.out]; simp) cc HCC
      unfold opV at hck
      refine hck.mono ?_
      clear hck k0 k1 k2 k3 k4 k5 k6 k7 k8 kf0 kf1 kf2 kf3 kf4 kf5 kf6 kf7 kf8 klt s6
      rintro e w9 ⟨rfl, hb9⟩
      have HG9 := hid_of3 (HGT.out.on hb9)
      have HN9 := hid_of3 (HNT.out.on hb9)
      clear hb9
      obtain ⟨r0, r1, r2, r3, r4, r5, r6, r7, r8, rf0, rf1, rf2, rf3, rf4, rf5, rf6, rf7, rf8, rlt⟩ := HG9.out.rr
      by_cases hcc : cc = 0
      case neg =>
        have he : errV cc = .iface 69 (.int .i64 (cc : Int)) := by unfold errV; rw [if_neg hcc]
        rw [he]
        have HR : Hid (r = (q00, cc)) := by unfold Hid; rw [HRC.out]; unfold finQ; rw [HCC.out, if_neg hcc]
        go_wp2_with fail
        refine bodyPost_ret (v := .tuple #[.agg #[.int .i64 0, .int .i64 0, .int .i64 0, .int .i64 0, .int .i64 0, .int .i64 0, .int .i64 0, .int .i64 0, .slice none 0 0], .iface 69 (.int .i64 (cc : Int))]) (by simp [results, Tryd.results11, go_sem, r0, r1, r2, r3, r4, r5, r6, r7, r8]) rfl (parP_err HR ?_ _ he)
        exact (by (repeat' (first | with_reducible apply Below.setCell | with_reducible apply Below.alloc | with_reducible apply Below.drew)) <;> first | exact HG9.out.bel | (simp; done) | (simp; omega))
      subst hcc
      rw [show errV 0 = .nilIface from rfl]
      have HR : Hid (r = (q0, 0)) := by unfold Hid; rw [HRC.out]; unfold finQ; rw [HCC.out, if_pos rfl]
      obtain ⟨k0, k1, k2, k3, k4, k5, k6, k7, k8, kf0, kf1, kf2, kf3, kf4, kf5, kf6, kf7, kf8, klt⟩ := HN9.out
      go_wp2_with fail
      refine bodyPost_ret (v := .tuple #[.agg #[.int .i64 q0.kind, .int .i64 q0.id, .int .i64 q0.a, .int .i64 q0.b, .int .i64 q0.c, .int .i64 q0.d, .int .i64 q0.pw, .int .i64 q0.ph, .slice none 0 0], .nilIface]) (by simp [results, Tryd.results11, go_sem, r0, r1, r2, r3, r4, r5, r6, r7, r8]) rfl (parP_ok HR ?_ ?_)
      · rw [HQP.out]; exact World.ownsRow_nil _ _ _ _
      · exact (by (repeat' (first | with_reducible apply Below.setCell | with_reducible apply Below.alloc | with_reducible apply Below.drew)) <;> first | exact HG9.out.bel | (simp; done) | (simp; omega))
  · go_simp
    refine hK.out _ _ ?_ (fun hHeld => ?_)
    · exact KEEP.out _ HGA.out
    clear hK K_
    try simp only [Act.put, List.setIfInBounds_toArray, List.set_cons_zero, List.set_cons_succ]
    refine wpAnyH_ready (rs := [5]) (by kernel_rfl) (by simp) ?_
    refine AllReadyH.cons (o := ({ dst := some 46, op := Op.call { callee := Callee.value (Operand.func 31), args := #[Operand.tmp 41, Operand.tmp 45], argTypes := #[56, 9] }, type := 26, pos := "op.go:97", after := #[{ on := 0, ground := Ground.data }, { on := 4, ground := Ground.data }], guard := none } : Oper)) rfl (fun K_ hK => ?_) AllReadyH.nil
    go_simp
    refine (HRD.out _).mono ?_
    rintro e w4 ⟨rfl, hb4⟩
    have HG4 := hid_of3 (HGA.out.on hb4)
    have HZ4 := hid_of3 (HZA.out.on hb4)
    have hsz4 : w3.heap.size ≤ w4.heap.size := by have h4 := hb4.size; simp at h4; omega
    try dsimp only
    refine hK.out _ _ ?_ (fun hHeld => ?_)
    · exact KEEP.out _ HG4.out
    clear hK K_
    try simp only [Act.put, List.setIfInBounds_toArray, List.set_cons_zero, List.set_cons_succ]
    obtain ⟨z0, z1, z2, z3, z4, z5, z6, z7, z8, zf0, zf1, zf2, zf3, zf4, zf5, zf6, zf7, zf8, zlt⟩ := HZ4.out
    refine wpAnyH_ready (rs := [7]) (by kernel_rfl) (by simp) ?_
    refine AllReadyH.cons (o := ({ dst := none, op := Op.store 26 (Operand.tmp 7) (Operand.tmp 46), type := 0, pos := "op.go:97", after := #[{ on := 6, ground := Ground.data }, { on := 5, ground := Ground.data }, { on := 5, ground := Ground.chain }, { on := 0, ground := Ground.phase }, { on := 1, ground := Ground.phase }, { on := 2, ground := Ground.phase }, { on := 3, ground := Ground.phase }, { on := 4, ground := Ground.phase }, { on := 5, ground := Ground.phase }, { on := 6, ground := Ground.phase }], guard := none } : Oper)) rfl (fun K_ hK => ?_) AllReadyH.nil
    go_simp
    refine hK.out _ _ ?_ (fun hHeld => ?_)
    · exact KEEP.out _ (HG4.out.onB (B := w3.heap.size) (by (repeat (refine Below.setCell ?_ (by simp) _)); exact Below.refl _ _) hsz4 hw3 hsb3 hgl3)
    clear hK K_
    try simp only [Act.put, List.setIfInBounds_toArray, List.set_cons_zero, List.set_cons_succ]
    refine wpAnyH_done (by kernel_rfl) ?_ _
    obtain ⟨Wt, HWT⟩ : ∃ W, Hid ((((((((((w4.setCell ⟨w3.heap.size, 0, none⟩ (.int .i64 q0.kind)).setCell ⟨w3.heap.size, 1, none⟩ (.int .i64 q0.id)).setCell ⟨w3.heap.size, 2, none⟩ (.int .i64 q0.a)).setCell ⟨w3.heap.size, 3, none⟩ (.int .i64 q0.b)).setCell ⟨w3.heap.size, 4, none⟩ (.int .i64 q0.c)).setCell ⟨w3.heap.size, 5, none⟩ (.int .i64 q0.d)).setCell ⟨w3.heap.size, 6, none⟩ (.int .i64 q0.pw)).setCell ⟨w3.heap.size, 7, none⟩ (.int .i64 q0.ph)).setCell ⟨w3.heap.size, 8, none⟩ (.slice none 0 0)) = W) := ⟨_, (rfl : _ = _)⟩
    have HGT : Hid (Gpa w nm dt sb s Wt) := by
      rw [← HWT.out]
      exact HG4.out.onB (B := w3.heap.size) (by (repeat (refine Below.setCell ?_ (by simp) _)); exact Below.refl _ _) hsz4 hw3 hsb3 hgl3
    have HNT : Hid (Nine Wt w3.heap.size (.int .i64 q0.kind) (.int .i64 q0.id) (.int .i64 q0.a) (.int .i64 q0.b) (.int .i64 q0.c) (.int .i64 q0.d) (.int .i64 q0.pw) (.int .i64 q0.ph) (.slice none 0 0)) := by rw [← HWT.out]; exact nine_all HZ4.out _ _ _ _ _ _ _ _ _
    obtain ⟨bb, HBB⟩ : ∃ b, Hid (w3.heap.size = b) := ⟨_, (rfl : _ = _)⟩
    have hbb : w3.heap.size ≤ bb := Nat.le_of_eq HBB.out
    rw [HBB.out] at HNT
    rw [HWT.out, HBB.out]
    clear HWT HBB HG4 HGA HZA HGD HZ4 z0 z1 z2 z3 z4 z5 z6 z7 z8 zf0 zf1 zf2 zf3 zf4 zf5 zf6 zf7 zf8 zlt
    cases fpc with
    | true =>
      obtain ⟨⟨t0, t1, -, -, -⟩, -, ⟨-, -, -, -, -, -, s6, -, -, -, -, -, -, -, -⟩, -, -, -⟩ := HGT.out
      rw [HFPC.out] at s6
      have HDX := hid_of3 (Lib.extract_to_end dt N)
      obtain ⟨z, HZP⟩ : ∃ z, Hid (parseL (dt.data.toList.drop N) = z) := ⟨_, (rfl : _ = _)⟩
      obtain ⟨PW, PH, ps, pc⟩ := z
      have HZX : Hid (parseL (dt.extract N dt.size).data.toList = (PW, PH, ps, pc)) := by unfold Hid; rw [HDX.out]; exact HZP.out
      go_wp2_with fail
      refine (parseO_any (dt.extract N dt.size) _ (by rw [ByteArray.size_extract]; omega) PW PH pc ps HZX).mono ?_
      rintro e w5 ⟨v5, rfl, ho5, hb5⟩
      have HO5 := hid_of3 ho5
      have HG5 := hid_of3 (HGT.out.on hb5)
      have HN5 := hid_of3 (HNT.out.on hb5)
      have hbtW : bb < Wt.heap.size := HNT.out.lt
      have hbt5 : bb < w5.heap.size := HN5.out.lt
      have hwz5 := HG5.out.bel.size
      obtain ⟨a5, c5, hv5⟩ := own_any ho5
      obtain ⟨n5, HL5⟩ : ∃ n, Hid (ps.length = n) := ⟨_, (rfl : _ = _)⟩
      rw [HL5.out] at hv5
      subst hv5
      clear ho5 hb5 t0 t1 s6
      obtain ⟨r0, r1, r2, r3, r4, r5, r6, r7, r8, rf0, rf1, rf2, rf3, rf4, rf5, rf6, rf7, rf8, rlt⟩ := HG5.out.rr
      by_cases hpc : pc = 0
      case neg =>
        have he : errV pc = .iface 69 (.int .i64 (pc : Int)) := by unfold errV; rw [if_neg hpc]
        rw [he]
        have HR : Hid (r = (q00, pc)) := by unfold Hid; rw [HRF.out, if_pos HFPC.out, HZP.out, if_neg hpc]
        go_wp2_with fail
        refine bodyPost_ret (v := .tuple #[.agg #[.int .i64 0, .int .i64 0, .int .i64 0, .int .i64 0, .int .i64 0, .int .i64 0, .int .i64 0, .int .i64 0, .slice none 0 0], .iface 69 (.int .i64 (pc : Int))]) (by simp [results, Tryd.results11, go_sem, r0, r1, r2, r3, r4, r5, r6, r7, r8, rlt]) rfl (parP_err HR ?_ _ he)
        exact (by (repeat' (first | with_reducible apply Below.setCell | with_reducible apply Below.alloc | with_reducible apply Below.drew)) <;> first | exact HG5.out.bel | (simp; done) | (simp; omega))
      subst hpc
      rw [show errV 0 = .nilIface from rfl]
      obtain ⟨k0, k1, k2, k3, k4, k5, k6, k7, k8, kf0, kf1, kf2, kf3, kf4, kf5, kf6, kf7, kf8, klt⟩ := HN5.out
      clear r0 r1 r2 r3 r4 r5 r6 r7 r8 rf0 rf1 rf2 rf3 rf4 rf5 rf6 rf7 rf8 rlt
      go_wp2_with fail
      obtain ⟨cc, HCC⟩ : ∃ c, Hid (opC ⟨q0.kind, q0.id, q0.a, q0.b, q0.c, q0.d, (PW : Int), (PH : Int), ps⟩ = c) := ⟨_, (rfl : _ = _)⟩
      have HRC : Hid (r = finQ ⟨q0.kind, q0.id, q0.a, q0.b, q0.c, q0.d, (PW : Int), (PH : Int), ps⟩) := by unfold Hid; rw [HRF.out, if_pos HFPC.out, HZP.out, if_pos rfl]
      have hpl : ps.length ≤ 1000000000 := Nat.le_trans (parse_lenP _ _ _ _ _ HZP.out) (by omega)
      have hck := fun X (hS : Shapes X) (hl : 3 < X.heap.size) (hU : RdP X (.slice a5 n5 c5) ps) => opCheck_any ⟨q0.kind, q0.id, q0.a, q0.b, q0.c, q0.d, (PW : Int), (PH : Int), ps⟩ (.slice a5 n5 c5) X hS hl hU hpl cc HCC
      unfold opV at hck
      obtain ⟨W8, HW8⟩ : ∃ W, Hid ((((w5.setCell ⟨bb, 6, none⟩ (.int .i64 (PW : Int))).setCell ⟨bb, 7, none⟩ (.int .i64 (PH : Int))).setCell ⟨bb, 8, none⟩ (.slice a5 n5 c5)).alloc (.cells #[.int .i64 (PW : Int), .int .i64 (PH : Int), .slice a5 n5 c5] 24) = W) := ⟨_, (rfl : _ = _)⟩
      have hbl8 : Below bb w5 W8 := by
        rw [← HW8.out]
        exact (((((Below.refl bb w5).setCell (show bb ≤ (⟨bb, 6, none⟩ : Addr).block from Nat.le_refl _) _).setCell (show bb ≤ (⟨bb, 7, none⟩ : Addr).block from Nat.le_refl _) _).setCell (show bb ≤ (⟨bb, 8, none⟩ : Addr).block from Nat.le_refl _) _)).alloc (by simp; omega) _
      have HG8 := hid_of3 (HG5.out.onB hbl8 (by omega) (by omega) (by omega) (by omega))
      have HN8 := hid_of3 (show Nine W8 bb (.int .i64 q0.kind) (.int .i64 q0.id) (.int .i64 q0.a) (.int .i64 q0.b) (.int .i64 q0.c) (.int .i64 q0.d) (.int .i64 (PW : Int)) (.int .i64 (PH : Int)) (.slice a5 n5 c5) by rw [← HW8.out]; exact (nine_pic HN5.out _ _ _).alloc _)
      have HO8 : Hid (W8.ownsRow (bb + 1) 88 2 (.slice a5 n5 c5) ps.length (pixCells ps)) := by
        rw [← HW8.out]
        refine own_al ?_ _
        exact ownsRow_setCell_below (ownsRow_setCell_below (ownsRow_setCell_below (own_mono HO5.out (show bb + 1 ≤ _ by omega)) (a := ⟨bb, 6, none⟩) (Nat.lt_succ_self _) _) (a := ⟨bb, 7, none⟩) (Nat.lt_succ_self _) _) (a := ⟨bb, 8, none⟩) (Nat.lt_succ_self _) _
      rw [HW8.out]
      refine (hck W8 HG8.out.sh HG8.out.lt (rdP_own HO8.out)).mono ?_
      clear hck k0 k1 k2 k3 k4 k5 k6 k7 k8 kf0 kf1 kf2 kf3 kf4 kf5 kf6 kf7 kf8 klt
      rintro e w9 ⟨rfl, hb9⟩
      have HG9 := hid_of3 (HG8.out.on hb9)
      have HN9 := hid_of3 (HN8.out.on hb9)
      have HO9 := hid_of3 (own_on2 HO8.out hb9)
      clear hb9 HW8
      obtain ⟨r0, r1, r2, r3, r4, r5, r6, r7, r8, rf0, rf1, rf2, rf3, rf4, rf5, rf6, rf7, rf8, rlt⟩ := HG9.out.rr
      by_cases hcc : cc = 0
      case neg =>
        have he : errV cc = .iface 69 (.int .i64 (cc : Int)) := by unfold errV; rw [if_neg hcc]
        rw [he]
        have HR : Hid (r = (q00, cc)) := by unfold Hid; rw [HRC.out]; unfold finQ; rw [HCC.out, if_neg hcc]
        go_wp2_with fail
        refine bodyPost_ret (v := .tuple #[.agg #[.int .i64 0, .int .i64 0, .int .i64 0, .int .i64 0, .int .i64 0, .int .i64 0, .int .i64 0, .int .i64 0, .slice none 0 0], .iface 69 (.int .i64 (cc : Int))]) (by simp [results, Tryd.results11, go_sem, r0, r1, r2, r3, r4, r5, r6, r7, r8]) rfl (parP_err HR ?_ _ he)
        exact (by (repeat' (first | with_reducible apply Below.setCell | with_reducible apply Below.alloc | with_reducible apply Below.drew)) <;> first | exact HG9.out.bel | (simp; done) | (simp; omega))
      subst hcc
      rw [show errV 0 = .nilIface from rfl]
      have HR : Hid (r = (⟨q0.kind, q0.id, q0.a, q0.b, q0.c, q0.d, (PW : Int), (PH : Int), ps⟩, 0)) := by unfold Hid; rw [HRC.out]; unfold finQ; rw [HCC.out, if_pos rfl]
      obtain ⟨k0, k1, k2, k3, k4, k5, k6, k7, k8, kf0, kf1, kf2, kf3, kf4, kf5, kf6, kf7, kf8, klt⟩ := HN9.out
      go_wp2_with fail
      refine bodyPost_ret (v := .tuple #[.agg #[.int .i64 q0.kind, .int .i64 q0.id, .int .i64 q0.a, .int .i64 q0.b, .int .i64 q0.c, .int .i64 q0.d, .int .i64 (PW : Int), .int .i64 (PH : Int), .slice a5 n5 c5], .nilIface]) (by simp [results, Tryd.results11, go_sem, r0, r1, r2, r3, r4, r5, r6, r7, r8]) rfl (parP_ok HR ?_ ?_)
      · exact own_mono (ownsRow_setCell_below (ownsRow_setCell_below (ownsRow_setCell_below (ownsRow_setCell_below (ownsRow_setCell_below (ownsRow_setCell_below (ownsRow_setCell_below (ownsRow_setCell_below (ownsRow_setCell_below HO9.out (a := ⟨w.heap.size + 1, 0, none⟩) (show w.heap.size + 1 < bb + 1 by omega) _) (a := ⟨w.heap.size + 1, 1, none⟩) (show w.heap.size + 1 < bb + 1 by omega) _) (a := ⟨w.heap.size + 1, 2, none⟩) (show w.heap.size + 1 < bb + 1 by omega) _) (a := ⟨w.heap.size + 1, 3, none⟩) (show w.heap.size + 1 < bb + 1 by omega) _) (a := ⟨w.heap.size + 1, 4, none⟩) (show w.heap.size + 1 < bb + 1 by omega) _) (a := ⟨w.heap.size + 1, 5, none⟩) (show w.heap.size + 1 < bb + 1 by omega) _) (a := ⟨w.heap.size + 1, 6, none⟩) (show w.heap.size + 1 < bb + 1 by omega) _) (a := ⟨w.heap.size + 1, 7, none⟩) (show w.heap.size + 1 < bb + 1 by omega) _) (a := ⟨w.heap.size + 1, 8, none⟩) (show w.heap.size + 1 < bb + 1 by omega) _) (by omega)
      · exact (by (repeat' (first | with_reducible apply Below.setCell | with_reducible apply Below.alloc | with_reducible apply Below.drew)) <;> first | exact HG9.out.bel | (simp; done) | (simp; omega))
    | false =>
      obtain ⟨-, -, ⟨-, -, -, -, -, -, s6, -, -, -, -, -, -, -, -⟩, -, -, -⟩ := HGT.out
      rw [HFPC.out] at s6
      have hbtW : bb < Wt.heap.size := HNT.out.lt
      obtain ⟨k0, k1, k2, k3, k4, k5, k6, k7, k8, kf0, kf1, kf2, kf3, kf4, kf5, kf6, kf7, kf8, klt⟩ := HNT.out
      go_wp2_with fail
      obtain ⟨cc, HCC⟩ : ∃ c, Hid (opC q0 = c) := ⟨_, (rfl : _ = _)⟩
      have HRC : Hid (r = finQ q0) := by unfold Hid; rw [HRF.out, if_neg (by rw [HFPC.out]; decide)]
      have hnil : Hid (RdP Wt (.slice none 0 0) q0.ps) := by unfold Hid; rw [HQP.out]; exact rdP_nil _
      have hck := opCheck_any q0 (.slice none 0 0) Wt HGT.out.sh HGT.out.lt hnil (by rw [HQP.out]; simp) cc HCC
      unfold opV at hck
      refine hck.mono ?_
      clear hck k0 k1 k2 k3 k4 k5 k6 k7 k8 kf0 kf1 kf2 kf3 kf4 kf5 kf6 kf7 kf8 klt s6
      rintro e w9 ⟨rfl, hb9⟩
      have HG9 := hid_of3 (HGT.out.on hb9)
      have HN9 := hid_of3 (HNT.out.on hb9)
      clear hb9
      obtain ⟨r0, r1, r2, r3, r4, r5, r6, r7, r8, rf0, rf1, rf2, rf3, rf4, rf5, rf6, rf7, rf8, rlt⟩ := HG9.out.rr
      by_cases hcc : cc = 0
      case neg =>
        have he : errV cc = .iface 69 (.int .i64 (cc : Int)) := by unfold errV; rw [if_neg hcc]
        rw [he]
        have HR : Hid (r = (q00, cc)) := by unfold Hid; rw [HRC.out]; unfold finQ; rw [HCC.out, if_neg hcc]
        go_wp2_with fail
        refine bodyPost_ret (v := .tuple #[.agg #[.int .i64 0, .int .i64 0, .int .i64 0, .int .i64 0, .int .i64 0, .int .i64 0, .int .i64 0, .int .i64 0, .slice none 0 0], .iface 69 (.int .i64 (cc : Int))]) (by simp [results, Tryd.results11, go_sem, r0, r1, r2, r3, r4, r5, r6, r7, r8]) rfl (parP_err HR ?_ _ he)
        exact (by (repeat' (first | with_reducible apply Below.setCell | with_reducible apply Below.alloc | with_reducible apply Below.drew)) <;> first | exact HG9.out.bel | (simp; done) | (simp; omega))
      subst hcc
      rw [show errV 0 = .nilIface from rfl]
      have HR : Hid (r = (q0, 0)) := by unfold Hid; rw [HRC.out]; unfold finQ; rw [HCC.out, if_pos rfl]
      obtain ⟨k0, k1, k2, k3, k4, k5, k6, k7, k8, kf0, kf1, kf2, kf3, kf4, kf5, kf6, kf7, kf8, klt⟩ := HN9.out
      go_wp2_with fail
      refine bodyPost_ret (v := .tuple #[.agg #[.int .i64 q0.kind, .int .i64 q0.id, .int .i64 q0.a, .int .i64 q0.b, .int .i64 q0.c, .int .i64 q0.d, .int .i64 q0.pw, .int .i64 q0.ph, .slice none 0 0], .nilIface]) (by simp [results, Tryd.results11, go_sem, r0, r1, r2, r3, r4, r5, r6, r7, r8]) rfl (parP_ok HR ?_ ?_)
      · rw [HQP.out]; exact World.ownsRow_nil _ _ _ _
      · exact (by (repeat' (first | with_reducible apply Below.setCell | with_reducible apply Below.alloc | with_reducible apply Below.drew)) <;> first | exact HG9.out.bel | (simp; done) | (simp; omega))
theorem parseOp_any (nm dt : ByteArray) (w : World) (HS : Hid (Shapes w)) (h1 : 3 < w.heap.size) (hd : dt.size ≤ 1000000) :
    Calls Tryd.prog 11 #[.agg #[.string nm, .string dt]] w fun e w' => ParP (parQ nm dt) w e w' := by
  refine (parseOp_own nm dt w HS h1 hd).mono ?_
  rintro e w' ⟨u, h1, h2, h3⟩
  exact ⟨u, h1, rdP_own h2, h3⟩
end Go.Proofs.YtfhfedcamcpceaaDoor
