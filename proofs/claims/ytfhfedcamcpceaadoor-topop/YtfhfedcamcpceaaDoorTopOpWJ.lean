/- Walk of the law TopOp. -- s1 -/
import Derived.Test.YtfhfedcamcpceaaDoorParMJ
import Derived.Test.YtfhfedcamcpceaaDoorOcAJ
import Derived.Test.YtfhfedcamcpceaaDoorSoQJ
import Derived.Test.YtfhfedcamcpceaaDoorNumBJ
namespace Go.Proofs.YtfhfedcamcpceaaDoor
open Go.RowKit

theorem eq_chunk (X : World) (a b : ByteArray) : (binOp .eql 30 (.agg #[.string a, .string b]) (.agg #[.string a, .string b])).run Tryd.prog X = .ok (.bool true) X := by
  have h : (Op.equalIn 10000 30 (.agg #[.string a, .string b]) (.agg #[.string a, .string b])).run Tryd.prog X = .ok true X := by
    have u3 := Tryd.underlying9
    rw [run_equalIn_agg X 9999 30 _ _ (by kernel_rfl) (by kernel_rfl)]
    simp only [Program.fieldsOf, Tryd.underlying30]
    go_simp
  rw [run_eql_struct, h]
  rfl
theorem opB_len (q : Pq) (s : Shp) (hok : OpOk q s) : (opB q s.id s.nums s.pic).length ≤ 1000 := by
  unfold opB
  rw [List.length_append, List.length_append, nsB_len, List.length_take]
  have h1 := idB_len q.id s.id
  have h2 : (nums4 q).length = 4 := rfl
  have h3 : (pcB q s.pic).length ≤ 300 := by
    unfold pcB
    split
    · rename_i hp
      have hpk := hok.pic hp
      obtain ⟨PW, PH, e1, e2, -⟩ := check_zero _ _ _ hpk
      rw [e1, e2] at hpk
      obtain ⟨i1, i2, i3, i4, -, -⟩ := check_ok hpk
      have h := picBytes_len PW PH q.ps hpk
      have h4 : PH * (1 + 2 * PW) ≤ 8 * 17 := Nat.mul_le_mul (by omega) (by omega)
      rw [e1, e2]
      show (picBytes PW PH q.ps).length ≤ 300
      omega
    · simp
  omega

set_option maxHeartbeats 16000000 in
set_option maxRecDepth 100000 in
theorem topOp_any (q : Pq) (u : Value) (w : World) (HS : Hid (Shapes w)) (h1 : 3 < w.heap.size) (HU : Hid (RdP w u q.ps)) :
    Calls Tryd.prog 4 #[opV q u] w fun e w' => e = .returned (.bool true) ∧ Below w.heap.size w w' := by
  obtain ⟨ap, cp, hv, hl0, hcp, -⟩ := HU.out
  obtain ⟨np, HNP⟩ : ∃ n, Hid (q.ps.length = n) := ⟨_, (rfl : _ = _)⟩
  rw [HNP.out] at hv hl0
  subst hv
  unfold opV
  obtain ⟨X0, HX0⟩ : ∃ X0, Hid (w.alloc (.cells #[.int .i64 q.kind, .int .i64 q.id, .int .i64 q.a, .int .i64 q.b, .int .i64 q.c, .int .i64 q.d, .int .i64 q.pw, .int .i64 q.ph, .slice ap np cp] 26) = X0) := ⟨_, (rfl : _ = _)⟩
  have hbz : Below w.heap.size w X0 := by rw [← HX0.out]; exact (Below.refl _ _).alloc (Nat.le_refl _) _
  have N0 : Hid (Nine X0 w.heap.size (.int .i64 q.kind) (.int .i64 q.id) (.int .i64 q.a) (.int .i64 q.b) (.int .i64 q.c) (.int .i64 q.d) (.int .i64 q.pw) (.int .i64 q.ph) (.slice ap np cp)) := by rw [← HX0.out]; exact nine_start w _ _ _ _ _ _ _ _ _ 26 w.heap.size rfl
  have HS0 : Hid (Shapes X0) := HS.out.on h1 hbz
  have h1' := Nat.lt_of_lt_of_le h1 hbz.size
  have HU0 : Hid (RdP X0 (.slice ap np cp) q.ps) := HU.out.on hbz
  have hc0 := chunkOp_any ⟨14, 0, 0, 0, 0, 0, 0, 0, []⟩ (.slice none 0 0) X0 HS0 h1' (rdP_nil _) (by simp)
  unfold opV at hc0
  go_enter Tryd.func4, Tryd.ntmps4
  go_wp2_with fail
  rw [HX0.out]
  refine hc0.mono ?_
  clear hc0
  rintro e w1 ⟨hb1, he⟩
  have he : e = .returned (.tuple #[.agg #[.string ⟨#[83, 65, 86, 69]⟩, .string ⟨#[]⟩], .nilIface]) := by
    rcases he with ⟨c, hc, hn, _⟩ | ⟨_, s, hs, rfl⟩
    · exact absurd (hc.symm.trans (show opC ⟨14, 0, 0, 0, 0, 0, 0, 0, []⟩ = 0 by decide)) hn
    · obtain rfl := Option.some.inj (hs.symm.trans (show kindAt 14 shps = some ⟨14, [83, 65, 86, 69], false, 0, 0, 0, false⟩ from rfl))
      rfl
  subst he
  have hbx1 : Below w1.heap.size w1 (w1.alloc (.cells #[.string ⟨#[83, 65, 86, 69]⟩, .string ⟨#[]⟩] 30)) := (Below.refl _ _).alloc (Nat.le_refl _) _
  have T1 := hid_of3 (two_startB w1 (.string ⟨#[83, 65, 86, 69]⟩) (.string ⟨#[]⟩) 30 w1.heap.size rfl)
  have N1 := hid_of3 ((N0.out.on hb1).on hbx1)
  have HU1 := hid_of3 ((HU0.out.on hb1).on hbx1)
  have hb1z := hb1.trans (hbx1.mono hb1.size)
  have HS1 : Hid (Shapes _) := HS0.out.on h1' hb1z
  have h11 := Nat.lt_of_lt_of_le h1' hb1z.size
  have hbb1 := hbz.trans (hb1z.mono hbz.size)
  have hcw : w.heap.size < w1.heap.size := Nat.lt_of_lt_of_le N0.out.lt hb1.size
  clear hbz hb1 hbx1 hb1z N0 HU0 HS0 h1' HX0
  obtain ⟨m0, m1, m2, m3, m4, m5, m6, m7, m8, -, -, -, -, -, -, -, -, -, -⟩ := N1.out
  go_wp2_with fail
  clear m0 m1 m2 m3 m4 m5 m6 m7 m8
  by_cases hn : np ≤ 80
  case neg =>
    refine (light_any q.pw q.ph ap np cp _ (by omega) false (by unfold Hid; simp [hn])).mono ?_
    rintro e w2 ⟨rfl, hb2⟩
    go_wp2_with fail
    go_ret
    exact ⟨rfl, hbb1.trans (hb2.mono hbb1.size)⟩
  refine (light_any q.pw q.ph ap np cp _ (by omega) true (by unfold Hid; simp [hn])).mono ?_
  rintro e w2 ⟨rfl, hb2⟩
  obtain ⟨cb, HCB⟩ : ∃ b, Hid (w1.heap.size = b) := ⟨_, (rfl : _ = _)⟩
  have T2 := hid_of3 (T1.out.on hb2)
  have N2 := hid_of3 (N1.out.on hb2)
  have HU2 := hid_of3 (HU1.out.on hb2)
  have HS2 : Hid (Shapes w2) := HS1.out.on h11 hb2
  have h12 := Nat.lt_of_lt_of_le h11 hb2.size
  have hbb2 := hbb1.trans (hb2.mono hbb1.size)
  rw [HCB.out] at T2 hcw
  rw [HCB.out]
  clear hb2 T1 N1 HU1 HS1 h11 hbb1 HCB
  have hc1 := chunkOp_any q (.slice ap np cp) w2 HS2 h12 HU2 (by rw [HNP.out]; omega)
  unfold opV at hc1
  obtain ⟨m0, m1, m2, m3, m4, m5, m6, m7, m8, -, -, -, -, -, -, -, -, -, -⟩ := N2.out
  go_wp2_with fail
  clear m0 m1 m2 m3 m4 m5 m6 m7 m8
  refine hc1.mono ?_
  clear hc1
  rintro e w3 ⟨hb3, he⟩
  have T3 := hid_of3 (T2.out.on hb3)
  have N3 := hid_of3 (N2.out.on hb3)
  have HU3 := hid_of3 (HU2.out.on hb3)
  have HS3 : Hid (Shapes w3) := HS2.out.on h12 hb3
  have h13 := Nat.lt_of_lt_of_le h12 hb3.size
  have hbb3 := hbb2.trans (hb3.mono hbb2.size)
  clear hb3 T2 N2 HU2 HS2 h12 hbb2
  have hcb3 : cb < w3.heap.size := T3.out.lt
  obtain ⟨t0, t1, tf0, tf1, tl⟩ := T3.out
  rcases he with ⟨c, hc, hcn, rfl⟩ | ⟨hc, s, hs, rfl⟩
  · have HC := hid_of3 hc
    have he : errV c = .iface 69 (.int .i64 (c : Int)) := by unfold errV; rw [if_neg hcn]
    rw [he]
    clear hc
    have heq := fun X => eq_chunk X ⟨#[]⟩ ⟨#[]⟩
    obtain ⟨m0, m1, m2, m3, m4, m5, m6, m7, m8, -, -, -, -, -, -, -, -, -, -⟩ := N3.out
    have hne : ¬ w.heap.size = cb := by omega
    go_wp2_with fail
    obtain ⟨W4, HW4⟩ : ∃ W, Hid ((w3.setCell ⟨cb, 0, none⟩ (.string ⟨#[]⟩)).setCell ⟨cb, 1, none⟩ (.string ⟨#[]⟩) = W) := ⟨_, (rfl : _ = _)⟩
    have hbw4 : Below w.heap.size w W4 := by rw [← HW4.out]; exact (hbb3.setCell (show w.heap.size ≤ cb by omega) _).setCell (show w.heap.size ≤ cb by omega) _
    have HU4 : Hid (RdP W4 (.slice ap np cp) q.ps) := HU.out.on hbw4
    have HS4 : Hid (Shapes W4) := HS.out.on h1 hbw4
    have h14 := Nat.lt_of_lt_of_le h1 hbw4.size
    have hck := opCheck_any q (.slice ap np cp) W4 HS4 h14 HU4 (by rw [HNP.out]; omega) c HC
    unfold opV at hck
    rw [HW4.out]
    clear m0 m1 m2 m3 m4 m5 m6 m7 m8 t0 t1 tf0 tf1 HW4
    refine hck.mono ?_
    clear hck
    rintro e w5 ⟨rfl, hb5⟩
    have hbb5 := hbw4.trans (hb5.mono hbw4.size)
    rw [he]
    go_wp2_with fail
    refine (number_some (c : Int) _).mono ?_
    rintro e wx ⟨rfl, rfl⟩
    go_wp2_with fail
    refine (number_some (c : Int) _).mono ?_
    rintro e wx ⟨rfl, rfl⟩
    go_wp2_with fail
    go_ret
    exact ⟨rfl, hbb5⟩
  · have HOK := hid_of3 (opC_ok hc hs)
    have HC := hid_of3 hc
    have HK := hid_of3 hs
    obtain ⟨t, HT⟩ := bytes_of (opB q s.id s.nums s.pic)
    have hstr : str (opB q s.id s.nums s.pic) = .string t := by rw [HT.out, str_self]
    have hts : t.size ≤ 1000 := by rw [size_of HT]; exact opB_len q s HOK.out
    have HPQ := hid_of3 (par_opB q s hc hs t HT.out.symm)
    rw [hstr]
    clear hstr hc hs
    have hne : ¬ w.heap.size = cb := by omega
    go_wp2_with fail
    obtain ⟨W4, HW4⟩ : ∃ W, Hid ((w3.setCell ⟨cb, 0, none⟩ (.string s.bytes)).setCell ⟨cb, 1, none⟩ (.string t) = W) := ⟨_, (rfl : _ = _)⟩
    have hbw4 : Below w.heap.size w W4 := by rw [← HW4.out]; exact (hbb3.setCell (show w.heap.size ≤ cb by omega) _).setCell (show w.heap.size ≤ cb by omega) _
    have hbc4 : Below cb w3 W4 := by rw [← HW4.out]; exact ((Below.refl cb w3).setCell (show cb ≤ (⟨cb, 0, none⟩ : Addr).block from Nat.le_refl _) _).setCell (show cb ≤ (⟨cb, 1, none⟩ : Addr).block from Nat.le_refl _) _
    have N4 := hid_of3 (N3.out.onB hbc4 hcw)
    have HU4 : Hid (RdP W4 (.slice ap np cp) q.ps) := HU.out.on hbw4
    have HS4 : Hid (Shapes W4) := HS.out.on h1 hbw4
    have h14 := Nat.lt_of_lt_of_le h1 hbw4.size
    rw [HW4.out]
    clear t0 t1 tf0 tf1 HW4 hbc4
    refine (parseOp_any s.bytes t W4 HS4 h14 (by omega)).mono ?_
    unfold ParP
    rw [HPQ.out]
    rintro e w5 ⟨u5, rfl, r5, hb5⟩
    rw [show errV (q, 0).2 = .nilIface from rfl]
    obtain ⟨a5, c5, hu5, -, -, -⟩ := id r5
    simp only at hu5 r5
    rw [HNP.out] at hu5
    subst hu5
    have hbx5 : Below w5.heap.size w5 (w5.alloc (.cells #[.int .i64 q.kind, .int .i64 q.id, .int .i64 q.a, .int .i64 q.b, .int .i64 q.c, .int .i64 q.d, .int .i64 q.pw, .int .i64 q.ph, .slice a5 np c5] 26)) := (Below.refl _ _).alloc (Nat.le_refl _) _
    have N5 := hid_of3 ((N4.out.on hb5).on hbx5)
    have M5 := hid_of3 (nine_start w5 (.int .i64 q.kind) (.int .i64 q.id) (.int .i64 q.a) (.int .i64 q.b) (.int .i64 q.c) (.int .i64 q.d) (.int .i64 q.pw) (.int .i64 q.ph) (.slice a5 np c5) 26 w5.heap.size rfl)
    have HU5 := hid_of3 ((HU4.out.on hb5).on hbx5)
    have HR5 := hid_of3 (r5.on hbx5)
    have hbb5 := (hbw4.trans (hb5.mono hbw4.size))
    have hbb6 := hbb5.trans (hbx5.mono hbb5.size)
    have hso := fun X (h0 : RdP X (.slice a5 np c5) q.ps) (h1 : RdP X (.slice ap np cp) q.ps) => sameOp_any q (.slice a5 np c5) (.slice ap np cp) X (by rw [HNP.out]; omega) h0 h1
    unfold opV at hso
    have HSO := hid_of3 hso
    clear hso r5 hb5 hbx5
    obtain ⟨m0, m1, m2, m3, m4, m5, m6, m7, m8, -, -, -, -, -, -, -, -, -, -⟩ := N5.out
    go_wp2_with fail
    refine (HSO.out _ HR5.out HU5.out).mono ?_
    rintro e w6 ⟨rfl, hb6⟩
    go_wp2_with fail
    go_ret
    exact ⟨rfl, hbb6.trans (hb6.mono hbb6.size)⟩
end Go.Proofs.YtfhfedcamcpceaaDoor
