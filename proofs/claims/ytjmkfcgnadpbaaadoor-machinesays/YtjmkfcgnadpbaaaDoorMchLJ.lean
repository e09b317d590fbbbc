/- Walks of a machine: Objects, Frames. -/
import Derived.Test.YtjmkfcgnadpbaaaDoorM9
import Derived.Test.YtjmkfcgnadpbaaaDoorMchTJ
namespace Go.Proofs.YtjmkfcgnadpbaaaDoor
open Go.RowKit Go.Maps

set_option maxHeartbeats 8000000 in
set_option maxRecDepth 100000 in
theorem mobj_any (B b : Nat) (F : List Nat) (qs : List Pq) (st : Ms) (w : World) (HM : Hid (Mac w B b F qs st)) (HF : Hid (FineO st.obs)) :
    Calls Tryd.prog 17 #[.pointer (some ⟨b, 0, none⟩)] w fun e w' => ∃ v' ov, e = .returned v' ∧ OwnOb w' w.heap.size v' ov ∧ ov.map Prod.fst = st.obs ∧ Below w.heap.size w w' := by
  obtain ⟨vo, bm, vr, vb, vk, vf, hm1, hm2, hm3⟩ := HM.out
  obtain ⟨N, hB⟩ := mac_nine hm1
  obtain ⟨ov, hov1, hov2⟩ := hm2.obs
  obtain ⟨oa, oc, hvb⟩ := own_any hov1.1
  subst hvb
  have HR : Hid (RdO w (.slice oa ov.length oc) st.obs) := by unfold Hid; rw [← hov2]; exact hov1.rd
  have hg := HF.out.good
  have h6 := hg.few
  have HPX : Hid (∀ j, j < st.obs.length → (st.obs.getD j po0).ps.length ≤ 100) := fun j hj => by have := hg.pix j hj; omega
  obtain ⟨n0, n1, n2, n3, n4, n5, n6, n7, n8, nf0, nf1, nf2, nf3, nf4, nf5, nf6, nf7, nf8, nlt⟩ := N
  clear hm1 hm2 hm3 hov1 hov2 HM hg
  go_enter Tryd.func17, Tryd.ntmps17
  go_wp2_with fail
  refine (ownO_any _ st.obs _ (by omega) HPX.out HR).mono ?_
  rintro e w1 ⟨g, qv, rfl, ho, hq, hb1⟩
  go_wp2_with fail
  go_ret
  exact ⟨_, qv, rfl, ho, hq, hb1⟩

set_option maxHeartbeats 8000000 in
set_option maxRecDepth 100000 in
theorem mfrm_any (B b : Nat) (F : List Nat) (qs : List Pq) (st : Ms) (w : World) (HM : Hid (Mac w B b F qs st)) (h40 : st.frs.length ≤ 40) (hps : ∀ f ∈ st.frs, FrG f) :
    Calls Tryd.prog 18 #[.pointer (some ⟨b, 0, none⟩)] w fun e w' => ∃ v' fv, e = .returned v' ∧ OwnFr w' w.heap.size v' fv ∧ fv.map Prod.fst = st.frs ∧ Below w.heap.size w w' := by
  obtain ⟨i0, hi, hz0, hz1, hz2⟩ := info_parts Tryd.infoFr
  obtain ⟨vo, bm, vr, vb, vk, vf, hm1, hm2, hm3⟩ := HM.out
  obtain ⟨N, hB⟩ := mac_nine hm1
  obtain ⟨fv, hf1, hf2⟩ := hm2.frs
  have hfl : fv.length = st.frs.length := by rw [← hf2]; simp
  obtain ⟨fa, fc, hvf⟩ := own_any hf1.1
  obtain ⟨fs, HFS⟩ : ∃ fs, Hid (st.frs = fs) := ⟨_, (rfl : _ = _)⟩
  have HR : Hid (RdF w vf fs) := by unfold Hid; rw [← HFS.out, ← hf2]; exact hf1.rd
  rw [HFS.out] at hps h40 hfl ⊢
  obtain ⟨n, HN⟩ : ∃ n, Hid (fs.length = n) := ⟨_, (rfl : _ = _)⟩
  rw [hfl, HN.out] at hvf
  subst hvf
  rw [HN.out] at h40
  have HPS : Hid (∀ f ∈ fs, FrG f) := hps
  obtain ⟨n0, n1, n2, n3, n4, n5, n6, n7, n8, nf0, nf1, nf2, nf3, nf4, nf5, nf6, nf7, nf8, nlt⟩ := N
  clear hm1 hm2 hm3 hf1 hf2 HM hps hfl
  go_enter Tryd.func18, Tryd.ntmps18
  go_wp2_with (at_make; refine wpList_make_own _ rfl _ _ 25 rfl w.heap.size 56 i0 (.agg #[.int .i64 0, .int .i64 0, .slice none 0 0, .int .i64 0]) 4 Tryd.underlying25 hi hz0 hz1 _ _ _ n rfl rfl ?a1 ?b1 ?b2 ?b3 ?_)
  case a1 => first | rfl | omega
  case b1 => rw [hz2]; omega
  case b2 => unfold maxLen; omega
  case b3 => exact Nat.le_refl _
  intro W0 hown0 hgrow0
  have hb0 : Below w.heap.size w W0 := (Below.refl _ _).grown hgrow0 (Nat.le_refl _) (by intro k hk; cases hk)
  have HO0 : Hid (OwnFr W0 w.heap.size (.slice (some ⟨w.heap.size, 0, none⟩) 0 n) []) := ⟨hown0, by simp⟩
  have n8' : W0.cell? ⟨b, 8, none⟩ = some (.slice fa n fc) := by rw [hb0.cell (p := ⟨b, 8, none⟩) nlt]; exact n8
  clear hown0 hgrow0
  go_wp2_with fail
  go_loopw [3, 17] (fun o i wr => ∃ (k : Nat) (qv : List (Pf × Value)) (oa : Option Addr) (oc : Nat), k ≤ n ∧ i = .int .i64 k ∧ o = .slice oa k oc ∧ Hid (qv.length = k) ∧ Hid (OwnFr wr w.heap.size (.slice oa k oc) qv) ∧ Hid (qv.map Prod.fst = fs.take k) ∧ Below w.heap.size w wr) (fun _ i _ => n - (intOf i).toNat)
  case atStart => exact ⟨0, [], _, _, by omega, rfl, rfl, rfl, HO0, (rfl : _ = _), hb0⟩
  case round =>
    obtain ⟨k, qv, oa, oc, hk, rfl, rfl, HLQ, HO, HQ, hbr⟩ := hrel
    by_cases hlt : k < n
    · have hlt' : k < fs.length := by rw [HN.out]; exact hlt
      obtain ⟨f, HX⟩ : ∃ o, Hid (fs.getD k pf0 = o) := ⟨_, (rfl : _ = _)⟩
      have hmemf : fs.getD k pf0 ∈ fs := by rw [List.getD_eq_getElem?_getD, List.getElem?_eq_getElem hlt']; simp
      have hpl : f.ps.length ≤ 100 := by rw [← HX.out]; have := check_len _ _ _ (HPS.out _ hmemf).pic; omega
      have HQ2 : Hid (∀ u, (qv ++ [(f, u)]).map Prod.fst = fs.take (k + 1)) := by
        intro u
        rw [List.map_append, HQ.out, List.take_succ_eq_append_getElem hlt', ← HX.out, List.getD_eq_getElem?_getD, List.getElem?_eq_getElem hlt']
        rfl
      obtain ⟨g, p, ua, mu, uc, rfl, hg, c0, c1, c2, c3, HU, HMU⟩ := (HR.out.on hbr).at hlt HX
      obtain ⟨fW, fH, fp, fd⟩ := f
      simp only at c0 c1 c2 c3 HU HMU hpl
      clear hlt' HX hmemf
      have hki0 : (0 : Int) ≤ (k : Int) := by omega
      have hki1 : (k : Int) < (n : Int) := by omega
      have hbx : Below wr.heap.size wr (wr.alloc (.cells #[.int .i64 fW, .int .i64 fH, .slice ua mu uc, .int .i64 fd] 56)) := (Below.refl _ _).alloc (Nat.le_refl _) _
      have q0 : (wr.alloc (.cells #[.int .i64 fW, .int .i64 fH, .slice ua mu uc, .int .i64 fd] 56)).cell? ⟨wr.heap.size, 0, none⟩ = some (.int .i64 fW) := by simp
      have q1 : (wr.alloc (.cells #[.int .i64 fW, .int .i64 fH, .slice ua mu uc, .int .i64 fd] 56)).cell? ⟨wr.heap.size, 1, none⟩ = some (.int .i64 fH) := by simp
      have q2 : (wr.alloc (.cells #[.int .i64 fW, .int .i64 fH, .slice ua mu uc, .int .i64 fd] 56)).cell? ⟨wr.heap.size, 2, none⟩ = some (.slice ua mu uc) := by simp
      have q3 : (wr.alloc (.cells #[.int .i64 fW, .int .i64 fH, .slice ua mu uc, .int .i64 fd] 56)).cell? ⟨wr.heap.size, 3, none⟩ = some (.int .i64 fd) := by simp
      have qf0 : (wr.alloc (.cells #[.int .i64 fW, .int .i64 fH, .slice ua mu uc, .int .i64 fd] 56)).frozen? ⟨wr.heap.size, 0, none⟩ = false := by simp
      have qf1 : (wr.alloc (.cells #[.int .i64 fW, .int .i64 fH, .slice ua mu uc, .int .i64 fd] 56)).frozen? ⟨wr.heap.size, 1, none⟩ = false := by simp
      have qf2 : (wr.alloc (.cells #[.int .i64 fW, .int .i64 fH, .slice ua mu uc, .int .i64 fd] 56)).frozen? ⟨wr.heap.size, 2, none⟩ = false := by simp
      have qlt : wr.heap.size < (wr.alloc (.cells #[.int .i64 fW, .int .i64 fH, .slice ua mu uc, .int .i64 fd] 56)).heap.size := by simp
      have HUX : Hid (RdP (wr.alloc (.cells #[.int .i64 fW, .int .i64 fH, .slice ua mu uc, .int .i64 fd] 56)) (.slice ua mu uc) fp) := HU.out.on hbx
      have hbX := hbr.trans (hbx.mono hbr.size)
      clear HU
      have HQF := hid_of2 (And.intro q0 (And.intro q1 (And.intro q2 (And.intro q3 (And.intro qf0 (And.intro qf1 qf2))))))
      clear q0 q1 q2 q3 qf0 qf1 qf2
      go_wp2_with fail
      refine (pown_any fW fH _ fp _ hpl HUX).mono ?_
      rintro e w1 ⟨u', rfl, hu, hb1⟩
      rw [HMU.out] at hu
      obtain ⟨va, vc, hu'⟩ := own_any hu
      subst hu'
      have hb3 : Below wr.heap.size wr (((w1.setCell ⟨wr.heap.size, 0, none⟩ (.int .i64 fW)).setCell ⟨wr.heap.size, 1, none⟩ (.int .i64 fH)).setCell ⟨wr.heap.size, 2, none⟩ (.slice va mu vc)) := (((hbx.trans (hb1.mono hbx.size)).setCell (Nat.le_refl _) _).setCell (Nat.le_refl _) _).setCell (Nat.le_refl _) _
      have hbb3 := hbr.trans (hb3.mono hbr.size)
      have hu3 : (((w1.setCell ⟨wr.heap.size, 0, none⟩ (.int .i64 fW)).setCell ⟨wr.heap.size, 1, none⟩ (.int .i64 fH)).setCell ⟨wr.heap.size, 2, none⟩ (.slice va mu vc)).ownsRow ((wr.alloc (.cells #[.int .i64 fW, .int .i64 fH, .slice ua mu uc, .int .i64 fd] 56)).heap.size + 2) 42 2 (.slice va mu vc) mu (pixCells fp) := ownsRow_setCell_below (ownsRow_setCell_below (ownsRow_setCell_below hu (a := ⟨wr.heap.size, 0, none⟩) (by simp; omega) _) (a := ⟨wr.heap.size, 1, none⟩) (by simp; omega) _) (a := ⟨wr.heap.size, 2, none⟩) (by simp; omega) _
      have HU3 : Hid ((((w1.setCell ⟨wr.heap.size, 0, none⟩ (.int .i64 fW)).setCell ⟨wr.heap.size, 1, none⟩ (.int .i64 fH)).setCell ⟨wr.heap.size, 2, none⟩ (.slice va mu vc)).ownsRow w.heap.size 42 2 (.slice va mu vc) mu (pixCells fp)) := own_mono hu3 (by have := hbX.size; omega)
      have HO3 : Hid (OwnFr (((w1.setCell ⟨wr.heap.size, 0, none⟩ (.int .i64 fW)).setCell ⟨wr.heap.size, 1, none⟩ (.int .i64 fH)).setCell ⟨wr.heap.size, 2, none⟩ (.slice va mu vc)) w.heap.size (.slice oa k oc) qv) := HO.out.on hb3
      have hb4 : Below (((w1.setCell ⟨wr.heap.size, 0, none⟩ (.int .i64 fW)).setCell ⟨wr.heap.size, 1, none⟩ (.int .i64 fH)).setCell ⟨wr.heap.size, 2, none⟩ (.slice va mu vc)).heap.size (((w1.setCell ⟨wr.heap.size, 0, none⟩ (.int .i64 fW)).setCell ⟨wr.heap.size, 1, none⟩ (.int .i64 fH)).setCell ⟨wr.heap.size, 2, none⟩ (.slice va mu vc)) ((((w1.setCell ⟨wr.heap.size, 0, none⟩ (.int .i64 fW)).setCell ⟨wr.heap.size, 1, none⟩ (.int .i64 fH)).setCell ⟨wr.heap.size, 2, none⟩ (.slice va mu vc)).alloc (.cells #[.int .i64 fW, .int .i64 fH, .slice va mu vc, .int .i64 fd] 56)) := (Below.refl _ _).alloc (Nat.le_refl _) _
      have HU4 : Hid (((((w1.setCell ⟨wr.heap.size, 0, none⟩ (.int .i64 fW)).setCell ⟨wr.heap.size, 1, none⟩ (.int .i64 fH)).setCell ⟨wr.heap.size, 2, none⟩ (.slice va mu vc)).alloc (.cells #[.int .i64 fW, .int .i64 fH, .slice va mu vc, .int .i64 fd] 56)).ownsRow w.heap.size 42 2 (.slice va mu vc) mu (pixCells fp)) := own_on2 HU3.out hb4
      have HO4 : Hid (OwnFr ((((w1.setCell ⟨wr.heap.size, 0, none⟩ (.int .i64 fW)).setCell ⟨wr.heap.size, 1, none⟩ (.int .i64 fH)).setCell ⟨wr.heap.size, 2, none⟩ (.slice va mu vc)).alloc (.cells #[.int .i64 fW, .int .i64 fH, .slice va mu vc, .int .i64 fd] 56)) w.heap.size (.slice oa k oc) qv) := HO3.out.on hb4
      have HO5 := HO4.out.1
      rw [HLQ.out] at HO5
      have HO6 := hid_of2 HO5
      have hbb4 := hbb3.trans (hb4.mono hbb3.size)
      have hws : w.heap.size ≤ ((((w1.setCell ⟨wr.heap.size, 0, none⟩ (.int .i64 fW)).setCell ⟨wr.heap.size, 1, none⟩ (.int .i64 fH)).setCell ⟨wr.heap.size, 2, none⟩ (.slice va mu vc)).alloc (.cells #[.int .i64 fW, .int .i64 fH, .slice va mu vc, .int .i64 fd] 56)).heap.size := hbb4.size
      have hW3 : (((w1.setCell ⟨wr.heap.size, 0, none⟩ (.int .i64 fW)).setCell ⟨wr.heap.size, 1, none⟩ (.int .i64 fH)).setCell ⟨wr.heap.size, 2, none⟩ (.slice va mu vc)).heap.size = w1.heap.size := by simp
      have HWS := hid_of2 hW3
      obtain ⟨q0, q1, q2, q3, qf0, qf1, qf2⟩ := HQF.out
      have m0 := (hb1.cell (p := ⟨wr.heap.size, 0, none⟩) qlt).trans q0
      have m1 := (hb1.cell (p := ⟨wr.heap.size, 1, none⟩) qlt).trans q1
      have m2 := (hb1.cell (p := ⟨wr.heap.size, 2, none⟩) qlt).trans q2
      have m3 := (hb1.cell (p := ⟨wr.heap.size, 3, none⟩) qlt).trans q3
      have mf0 := (hb1.frozen (p := ⟨wr.heap.size, 0, none⟩) qlt).trans qf0
      have mf1 := (hb1.frozen (p := ⟨wr.heap.size, 1, none⟩) qlt).trans qf1
      have mf2 := (hb1.frozen (p := ⟨wr.heap.size, 2, none⟩) qlt).trans qf2
      have mlt : wr.heap.size < w1.heap.size := Nat.lt_of_lt_of_le qlt hb1.size
      clear hb1 HUX hbX hu hu3 HU3 HO3 hb4 HO5 hW3 hbx hb3 hbb3 q0 q1 q2 q3 qf0 qf1 qf2 qlt HQF
      go_wp2_with (at_builtin; refine wpList_append_own _ rfl _ _ 25 rfl w.heap.size 56 i0 (.agg #[.int .i64 0, .int .i64 0, .slice none 0 0, .int .i64 0]) 4 48 Tryd.underlying25 hi hz0 hz1 hz2 rfl (by decide) _ k _ rfl HO6.out ⟨w1.heap.size, 0, none⟩ 1 1 [.int .i64 fW, .int .i64 fH, .slice va mu vc, .int .i64 fd] rfl rfl ?c1 ?c2 ?c3 ?c4 ?c5 ?_)
      case c1 => intro j u hj; rw [← HWS.out]; exact new_cells (((w1.setCell ⟨wr.heap.size, 0, none⟩ (.int .i64 fW)).setCell ⟨wr.heap.size, 1, none⟩ (.int .i64 fH)).setCell ⟨wr.heap.size, 2, none⟩ (.slice va mu vc)) _ _ j u hj
      case c2 => intro u hu; simp at hu; rcases hu with rfl | rfl | rfl | rfl <;> rfl
      case c3 => unfold maxLen; omega
      case c4 => omega
      case c5 => exact hws
      intro v' w5 ho5 hg5 _
      obtain ⟨a', c', hv'⟩ := own_any ho5
      subst hv'
      have HO7 : Hid (OwnFr w5 w.heap.size (.slice a' (k + 1) c') (qv ++ [(⟨fW, fH, fp, fd⟩, .slice va mu vc)])) := HO4.out.app (f := ⟨fW, fH, fp, fd⟩) (by simp only; rw [HMU.out]; exact HU4.out) (by rw [HLQ.out]; exact ho5) hg5
      have hb5 : Below w.heap.size w w5 := hbb4.grown hg5 hbb4.size (fun z hz => (HO6.out.lt z hz).1)
      have HL7 : Hid ((qv ++ [((⟨fW, fH, fp, fd⟩ : Pf), Value.slice va mu vc)]).length = k + 1) := by unfold Hid; rw [List.length_append, HLQ.out]; rfl
      clear ho5 hg5 HO4 HO6 HU4 hbb4 hws HWS m0 m1 m2 m3 mf0 mf1 mf2 mlt c0 c1 c2 c3
      go_wp2_with fail
      go_roundw
      case rel => exact ⟨k + 1, _, _, _, by omega, by go_num, rfl, HL7, HO7, HQ2.out _, hb5⟩
      case measure => simp [intOf]; omega
    · obtain rfl : k = n := by omega
      go_wp2_with fail
      go_ret
      refine ⟨_, qv, rfl, HO.out, ?_, hbr⟩
      rw [HQ.out, List.take_of_length_le (by rw [HN.out]; exact Nat.le_refl _)]
end Go.Proofs.YtjmkfcgnadpbaaaDoor
