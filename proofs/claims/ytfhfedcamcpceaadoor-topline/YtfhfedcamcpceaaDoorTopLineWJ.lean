/- Walk of the law TopLine. -- s1 -/
import Derived.Test.YtfhfedcamcpceaaDoorM4
import Derived.Test.YtfhfedcamcpceaaDoorScIJ
namespace Go.Proofs.YtfhfedcamcpceaaDoor
open Go.RowKit

theorem lineT_save : lineT ⟨14, 0, 0, 0, 0, 0, 0, 0, []⟩ = [115, 97, 118, 101] := by decide +kernel
theorem opC_save : opC ⟨14, 0, 0, 0, 0, 0, 0, 0, []⟩ = 0 := by decide +kernel
theorem lineT_len (q : Pq) : (lineT q).length ≤ 10000 := by
  unfold lineT
  split
  · rename_i hc
    split
    · rename_i s hk
      have hok := opC_ok hc hk
      obtain ⟨hm, -⟩ := kindAt_mem _ _ _ hk
      have h4 := (shps_ok s hm).1
      have h1 := numsQ_count hok h4
      have h2 := tell_len (Sc.numsQ q s.id s.nums s.pic) (fun n hn => by have := Sc.numsQ_small hok n hn; omega)
      have h3 : ∀ s ∈ shps, (Sc.wdAt s.kind).length ≤ 10 := by decide +kernel
      have h5 := h3 s hm
      unfold Sc.lineQ
      rw [List.length_append]
      omega
    · simp
  · simp

set_option maxHeartbeats 16000000 in
set_option maxRecDepth 100000 in
theorem topLine_any (q : Pq) (u : Value) (w : World) (HS : Hid (Shapes w)) (h1 : 3 < w.heap.size) (HE : Hid (LibE w)) (HW : Hid (WordsP w)) (HU : Hid (RdP w u q.ps)) :
    Calls Tryd.prog 6 #[opV q u] w fun e w' => e = .returned (.bool true) ∧ Below w.heap.size w w' := by
  obtain ⟨ap, cp, hv, hl0, hcp, -⟩ := HU.out
  obtain ⟨np, HNP⟩ : ∃ n, Hid (q.ps.length = n) := ⟨_, (rfl : _ = _)⟩
  rw [HNP.out] at hv hl0
  subst hv
  unfold opV
  obtain ⟨X0, HX0⟩ : ∃ X0, Hid (w.alloc (.cells #[.int .i64 q.kind, .int .i64 q.id, .int .i64 q.a, .int .i64 q.b, .int .i64 q.c, .int .i64 q.d, .int .i64 q.pw, .int .i64 q.ph, .slice ap np cp] 26) = X0) := ⟨_, (rfl : _ = _)⟩
  have hbz : Below w.heap.size w X0 := by rw [← HX0.out]; exact (Below.refl _ _).alloc (Nat.le_refl _) _
  have N0 : Hid (Nine X0 w.heap.size (.int .i64 q.kind) (.int .i64 q.id) (.int .i64 q.a) (.int .i64 q.b) (.int .i64 q.c) (.int .i64 q.d) (.int .i64 q.pw) (.int .i64 q.ph) (.slice ap np cp)) := by rw [← HX0.out]; exact nine_start w _ _ _ _ _ _ _ _ _ 26 w.heap.size rfl
  have hc0 := textS_any ⟨14, 0, 0, 0, 0, 0, 0, 0, []⟩ (.slice none 0 0) X0 (HS.out.on h1 hbz) (Nat.lt_of_lt_of_le h1 hbz.size) (HE.out.on hbz) (HW.out.on hbz) (rdP_nil _) (by simp)
  unfold opV at hc0
  have HC0 := hid_of3 hc0
  clear hc0
  go_enter Tryd.func6, Tryd.ntmps6
  go_wp2_with fail
  rw [HX0.out]
  refine HC0.out.mono ?_
  clear HC0 HX0
  rintro e w1 ⟨t, rfl, ht, hb1⟩
  rw [opC_save, show errV 0 = Value.nilIface from rfl]
  rw [lineT_save] at ht
  obtain rfl : t = ⟨#[115, 97, 118, 101]⟩ := data_inj ht
  have N1 := hid_of3 (N0.out.on hb1)
  have hbb1 := hbz.trans (hb1.mono hbz.size)
  clear hbz hb1 N0 ht
  obtain ⟨m0, m1, m2, m3, m4, m5, m6, m7, m8, -, -, -, -, -, -, -, -, -, -⟩ := N1.out
  go_wp2_with fail
  clear m0 m1 m2 m3 m4 m5 m6 m7 m8
  by_cases hn : np ≤ 80
  case neg =>
    refine (light_any q.pw q.ph ap np cp _ (by omega) false (by unfold Hid; simp [hn])).mono ?_
    rintro e w2 ⟨rfl, hb2⟩
    go_wp2_with fail
    go_ret
    exact ⟨rfl, hbb1.trans (hb2.mono hbb1.size)⟩
  refine (light_any q.pw q.ph ap np cp _ (by omega) true (by unfold Hid; simp [hn])).mono ?_
  rintro e w2 ⟨rfl, hb2⟩
  have N2 := hid_of3 (N1.out.on hb2)
  have hbb2 := hbb1.trans (hb2.mono hbb1.size)
  clear hb2 N1 hbb1
  have hc1 := textS_any q (.slice ap np cp) w2 (HS.out.on h1 hbb2) (Nat.lt_of_lt_of_le h1 hbb2.size) (HE.out.on hbb2) (HW.out.on hbb2) (HU.out.on hbb2) (by rw [HNP.out]; omega)
  unfold opV at hc1
  obtain ⟨m0, m1, m2, m3, m4, m5, m6, m7, m8, -, -, -, -, -, -, -, -, -, -⟩ := N2.out
  go_wp2_with fail
  clear m0 m1 m2 m3 m4 m5 m6 m7 m8
  refine hc1.mono ?_
  clear hc1
  rintro e w3 ⟨t, rfl, ht, hb3⟩
  have HT := hid_of3 ht
  have N3 := hid_of3 (N2.out.on hb3)
  have hbb3 := hbb2.trans (hb3.mono hbb2.size)
  clear hb3 N2 hbb2 ht
  obtain ⟨c, HC⟩ : ∃ c, Hid (opC q = c) := ⟨_, (rfl : _ = _)⟩
  rw [HC.out]
  by_cases hcn : c = 0
  case neg =>
    have he : errV c = .iface 69 (.int .i64 (c : Int)) := by unfold errV; rw [if_neg hcn]
    rw [he]
    have ht0 : t = ⟨#[]⟩ := data_inj (HT.out.trans (by unfold lineT; rw [HC.out, if_neg hcn]))
    subst ht0
    have hck := opCheck_any q (.slice ap np cp) w3 (HS.out.on h1 hbb3) (Nat.lt_of_lt_of_le h1 hbb3.size) (HU.out.on hbb3) (by rw [HNP.out]; omega) c HC
    unfold opV at hck
    obtain ⟨m0, m1, m2, m3, m4, m5, m6, m7, m8, -, -, -, -, -, -, -, -, -, -⟩ := N3.out
    go_wp2_with fail
    clear m0 m1 m2 m3 m4 m5 m6 m7 m8
    refine hck.mono ?_
    clear hck
    rintro e w5 ⟨rfl, hb5⟩
    have hbb5 := hbb3.trans (hb5.mono hbb3.size)
    rw [he]
    go_wp2_with fail
    refine (number_some (c : Int) _).mono ?_
    rintro e wx ⟨rfl, rfl⟩
    go_wp2_with fail
    refine (number_some (c : Int) _).mono ?_
    rintro e wx ⟨rfl, rfl⟩
    go_wp2_with fail
    go_ret
    exact ⟨rfl, hbb5⟩
  subst hcn
  rw [show errV 0 = Value.nilIface from rfl]
  obtain ⟨s, hs⟩ := opC_some HC.out
  have hts : t.size ≤ 100000 := by
    have := lineT_len q
    rw [← HT.out] at this
    simp at this
    omega
  have HPQ : Hid (Sc.opIn t.data.toList = (q, 0)) := by
    unfold Hid
    rw [HT.out, ← Sc.opIn_line HC.out hs]
    unfold lineT
    rw [if_pos HC.out, hs]
  clear hs
  have hpa := hid_of3 (parseS_any t w3 (HS.out.on h1 hbb3) (Nat.lt_of_lt_of_le h1 hbb3.size) (HE.out.on hbb3) (HW.out.on hbb3) hts (q, 0) HPQ)
  go_wp2_with fail
  refine hpa.out.mono ?_
  clear hpa
  rintro e w5 ⟨u5, rfl, r5, hb5⟩
  rw [show errV (q, 0).2 = .nilIface from rfl]
  have r5 := rdP_own r5
  rw [show ((q, 0) : Pq × Nat).1 = q from rfl] at r5 ⊢
  obtain ⟨a5, c5, hu5, -, -, -⟩ := id r5
  rw [HNP.out] at hu5
  subst hu5
  unfold opV
  have hbb5 := (hbb3.trans (hb5.mono hbb3.size))
  have hbx5 : Below w5.heap.size w5 (w5.alloc (.cells #[.int .i64 q.kind, .int .i64 q.id, .int .i64 q.a, .int .i64 q.b, .int .i64 q.c, .int .i64 q.d, .int .i64 q.pw, .int .i64 q.ph, .slice a5 np c5] 26)) := (Below.refl _ _).alloc (Nat.le_refl _) _
  have N5 := hid_of3 ((N3.out.on hb5).on hbx5)
  have M5 := hid_of3 (nine_start w5 (.int .i64 q.kind) (.int .i64 q.id) (.int .i64 q.a) (.int .i64 q.b) (.int .i64 q.c) (.int .i64 q.d) (.int .i64 q.pw) (.int .i64 q.ph) (.slice a5 np c5) 26 w5.heap.size rfl)
  have HR5 := hid_of3 (r5.on hbx5)
  have hbb6 := hbb5.trans (hbx5.mono hbb5.size)
  have HU5 := hid_of3 (HU.out.on hbb6)
  have hso := fun X (h0 : RdP X (.slice a5 np c5) q.ps) (h1 : RdP X (.slice ap np cp) q.ps) => sameOp_any q (.slice a5 np c5) (.slice ap np cp) X (by rw [HNP.out]; omega) h0 h1
  unfold opV at hso
  have HSO := hid_of3 hso
  clear hso r5 hb5 hbx5
  obtain ⟨m0, m1, m2, m3, m4, m5, m6, m7, m8, -, -, -, -, -, -, -, -, -, -⟩ := N5.out
  go_wp2_with fail
  refine (HSO.out _ HR5.out HU5.out).mono ?_
  rintro e w6 ⟨rfl, hb6⟩
  go_wp2_with fail
  go_ret
  exact ⟨rfl, hbb6.trans (hb6.mono hbb6.size)⟩
end Go.Proofs.YtfhfedcamcpceaaDoor
