/- Walk of the law MachineSays. -/
import Derived.Test.YtjmkfcgnadpbaaaDoorMsAJ
import Derived.Test.YtjmkfcgnadpbaaaDoorSameBJ
namespace Go.Proofs.YtjmkfcgnadpbaaaDoor
open Go.RowKit Go.Maps

theorem obs_px {os : List Po} (h : FineO os) : ∀ o ∈ os, o.ps.length ≤ 1000 := by
  intro o ho
  obtain ⟨j, hj, e⟩ := List.mem_iff_getElem.1 ho
  have := h.good.pix j hj
  rw [List.getD_eq_getElem?_getD, List.getElem?_eq_getElem hj] at this
  simp only [Option.getD_some] at this
  rw [e] at this
  omega
theorem mach_ops (w : World) : RdQ (w.alloc (.cells #[.int .i64 1, .int .i64 0, .int .i64 1, .int .i64 1, .int .i64 0, .int .i64 0, .int .i64 0, .int .i64 0, .slice none 0 0, .int .i64 10, .int .i64 0, .int .i64 7, .int .i64 255, .int .i64 0, .int .i64 0, .int .i64 0, .int .i64 0, .slice none 0 0, .int .i64 11, .int .i64 0, .int .i64 3, .int .i64 0, .int .i64 0, .int .i64 0, .int .i64 0, .int .i64 0, .slice none 0 0, .int .i64 16, .int .i64 0, .int .i64 0, .int .i64 0, .int .i64 0, .int .i64 0, .int .i64 0, .int .i64 0, .slice none 0 0] 51)) (.slice (some ⟨w.heap.size, 0, none⟩) 4 4) [⟨1, 0, 1, 1, 0, 0, 0, 0, []⟩, ⟨10, 0, 7, 255, 0, 0, 0, 0, []⟩, ⟨11, 0, 3, 0, 0, 0, 0, 0, []⟩, ⟨16, 0, 0, 0, 0, 0, 0, 0, []⟩] := by
  have h := World.ownsRow_lit (base := w.heap.size) (e := 51) (size := 9) w #[.int .i64 1, .int .i64 0, .int .i64 1, .int .i64 1, .int .i64 0, .int .i64 0, .int .i64 0, .int .i64 0, .slice none 0 0, .int .i64 10, .int .i64 0, .int .i64 7, .int .i64 255, .int .i64 0, .int .i64 0, .int .i64 0, .int .i64 0, .slice none 0 0, .int .i64 11, .int .i64 0, .int .i64 3, .int .i64 0, .int .i64 0, .int .i64 0, .int .i64 0, .int .i64 0, .slice none 0 0, .int .i64 16, .int .i64 0, .int .i64 0, .int .i64 0, .int .i64 0, .int .i64 0, .int .i64 0, .int .i64 0, .slice none 0 0] 4 (Nat.le_refl _) (by unfold maxLen; omega) rfl
  have h2 : OwnQ (w.alloc (.cells #[.int .i64 1, .int .i64 0, .int .i64 1, .int .i64 1, .int .i64 0, .int .i64 0, .int .i64 0, .int .i64 0, .slice none 0 0, .int .i64 10, .int .i64 0, .int .i64 7, .int .i64 255, .int .i64 0, .int .i64 0, .int .i64 0, .int .i64 0, .slice none 0 0, .int .i64 11, .int .i64 0, .int .i64 3, .int .i64 0, .int .i64 0, .int .i64 0, .int .i64 0, .int .i64 0, .slice none 0 0, .int .i64 16, .int .i64 0, .int .i64 0, .int .i64 0, .int .i64 0, .int .i64 0, .int .i64 0, .int .i64 0, .slice none 0 0] 51)) w.heap.size (.slice (some ⟨w.heap.size, 0, none⟩) 4 4) [(⟨1, 0, 1, 1, 0, 0, 0, 0, []⟩, .slice none 0 0), (⟨10, 0, 7, 255, 0, 0, 0, 0, []⟩, .slice none 0 0), (⟨11, 0, 3, 0, 0, 0, 0, 0, []⟩, .slice none 0 0), (⟨16, 0, 0, 0, 0, 0, 0, 0, []⟩, .slice none 0 0)] := ⟨h, fun q hq => by
    simp only [List.mem_cons, List.not_mem_nil, or_false] at hq
    rcases hq with rfl | rfl | rfl | rfl <;> exact World.ownsRow_nil _ _ _ _⟩
  exact h2.rd
theorem mach_plays : playR [⟨1, 0, 1, 1, 0, 0, 0, 0, []⟩, ⟨10, 0, 7, 255, 0, 0, 0, 0, []⟩, ⟨11, 0, 3, 0, 0, 0, 0, 0, []⟩, ⟨16, 0, 0, 0, 0, 0, 0, 0, []⟩] 9 = .inl [⟨1, 1, [(7, 255)], 3⟩] := by kernel_rfl

set_option maxHeartbeats 8000000 in
set_option maxRecDepth 100000 in
theorem machines_any (w : World) (HS : Hid (Shapes w)) (h1 : 0 < w.heap.size) : Calls Tryd.prog 4 #[] w fun e w' => e = .returned (.bool true) ∧ Below w.heap.size w w' := by
  have hbz : Below w.heap.size w (w.alloc (.cells #[.int .i64 1, .int .i64 0, .int .i64 1, .int .i64 1, .int .i64 0, .int .i64 0, .int .i64 0, .int .i64 0, .slice none 0 0, .int .i64 10, .int .i64 0, .int .i64 7, .int .i64 255, .int .i64 0, .int .i64 0, .int .i64 0, .int .i64 0, .slice none 0 0, .int .i64 11, .int .i64 0, .int .i64 3, .int .i64 0, .int .i64 0, .int .i64 0, .int .i64 0, .int .i64 0, .slice none 0 0, .int .i64 16, .int .i64 0, .int .i64 0, .int .i64 0, .int .i64 0, .int .i64 0, .int .i64 0, .int .i64 0, .slice none 0 0] 51)) := (Below.refl _ _).alloc (Nat.le_refl _) _
  have HS0 : Hid (Shapes (w.alloc (.cells #[.int .i64 1, .int .i64 0, .int .i64 1, .int .i64 1, .int .i64 0, .int .i64 0, .int .i64 0, .int .i64 0, .slice none 0 0, .int .i64 10, .int .i64 0, .int .i64 7, .int .i64 255, .int .i64 0, .int .i64 0, .int .i64 0, .int .i64 0, .slice none 0 0, .int .i64 11, .int .i64 0, .int .i64 3, .int .i64 0, .int .i64 0, .int .i64 0, .int .i64 0, .int .i64 0, .slice none 0 0, .int .i64 16, .int .i64 0, .int .i64 0, .int .i64 0, .int .i64 0, .int .i64 0, .int .i64 0, .int .i64 0, .slice none 0 0] 51))) := HS.out.on h1 hbz
  have HR0 := hid_of2 (mach_ops w)
  go_enter Tryd.func4, Tryd.ntmps4
  go_wp2_with fail
  refine (mplay_any (.slice (some ⟨w.heap.size, 0, none⟩) 4 4) [⟨1, 0, 1, 1, 0, 0, 0, 0, []⟩, ⟨10, 0, 7, 255, 0, 0, 0, 0, []⟩, ⟨11, 0, 3, 0, 0, 0, 0, 0, []⟩, ⟨16, 0, 0, 0, 0, 0, 0, 0, []⟩] 9 _ HS0 (Nat.lt_of_lt_of_le h1 hbz.size) HR0 (by intro j hj; match j, hj with | 0, _ => simp [pq0] | 1, _ => simp [pq0] | 2, _ => simp [pq0] | 3, _ => simp [pq0] | j + 4, hj => exact absurd hj (by simp)) (by simp) (by omega)).mono ?_
  rw [mach_plays]
  rintro e w2 ⟨hb2, hh⟩
  have hbb2 := hbz.trans (hb2.mono hbz.size)
  rcases hh with ⟨v', fv, rfl, hf, hr⟩ | ⟨c, _, hr, _⟩
  case inr => cases hr
  have hl1 : fv.length = 1 := by
    have := congrArg List.length (Sum.inl.inj hr)
    simpa using this.symm
  obtain ⟨fu, rfl⟩ := List.length_eq_one_iff.1 hl1
  clear hl1
  obtain ⟨f, u⟩ := fu
  have hfe : f = ⟨1, 1, [(7, 255)], 3⟩ := by
    have := Sum.inl.inj hr
    simpa using this.symm
  subst hfe
  obtain ⟨fa, fc, hv⟩ := own_some hf.1 (by simp)
  subst hv
  have hq := hf.2 (⟨1, 1, [(7, 255)], 3⟩, u) (by simp)
  simp only at hq
  obtain ⟨pa, pc, hu⟩ := own_some hq (by simp)
  subst hu
  have c2 : w2.cell? ⟨fa, 2, none⟩ = some (.slice (some ⟨pa, 0, none⟩) 1 pc) := hf.1.cellAt 2 (by simp)
  have c3 : w2.cell? ⟨fa, 3, none⟩ = some (.int .i64 3) := hf.1.cellAt 3 (by simp)
  have p0 : w2.cell? ⟨pa, 0, none⟩ = some (.int .i64 7) := hq.cellAt 0 (by simp)
  clear hf hq hr hb2
  go_wp2_with fail
  refine (same_ok 0 .nilIface rfl _).mono ?_
  rintro e wx ⟨rfl, rfl⟩
  go_wp2_with fail
  go_ret
  exact ⟨rfl, hbb2⟩
set_option maxHeartbeats 8000000 in
set_option maxRecDepth 100000 in
theorem machineSays_any (v : Value) (qs : List Pq) (fuel : Int) (w : World) (HS : Hid (Shapes w)) (h1 : 0 < w.heap.size) (HR : Hid (RdQ w v qs)) (hf1 : -9223372036854775808 ≤ fuel) (hf2 : fuel ≤ 9223372036854775807) :
    Calls Tryd.prog 3 #[v, .int .i64 fuel] w fun e w' => e = .returned (.bool true) ∧ Below w.heap.size w w' := by
  obtain ⟨a, cap, hv, hl0, hcap⟩ := HR.out.shape
  obtain ⟨n, HN⟩ : ∃ n, Hid (qs.length = n) := ⟨_, (rfl : _ = _)⟩
  rw [HN.out] at hv hl0
  subst hv
  go_enter Tryd.func3, Tryd.ntmps3
  go_wp2_with fail
  refine (machines_any w HS h1).mono ?_
  rintro e w1 ⟨rfl, hb1⟩
  go_wp2_with fail
  refine (lightOps_any (.slice a n cap) qs w1 (HR.out.on hb1)).mono ?_
  rintro e w2 ⟨lb, rfl, hlq, hb2⟩
  have hbb2 := hb1.trans (hb2.mono hb1.size)
  clear hb1 hb2
  cases lb with
  | false =>
    go_wp2_with fail
    go_ret
    exact ⟨rfl, hbb2⟩
  | true =>
  have HLQ := hid_of2 (hlq rfl)
  clear hlq
  have hps : ∀ j, j < qs.length → (qs.getD j pq0).ps.length ≤ 100 := fun j hj => by have := HLQ.out.pix j hj; omega
  have hqn : qs.length ≤ 1000 := by have := HLQ.out.few; omega
  have HPS := hid_of2 hps
  clear hps
  obtain ⟨r, HRR⟩ : ∃ r, Hid (playR qs fuel = r) := ⟨_, (rfl : _ = _)⟩
  have hp1 := mplay_any (.slice a n cap) qs fuel w2 (HS.out.on h1 hbb2) (Nat.lt_of_lt_of_le h1 hbb2.size) (HR.out.on hbb2) HPS.out hqn hf1
  have hp2 := fun X (hX : RdQ X (.slice a n cap) qs) => rplayed_any (.slice a n cap) qs fuel X hX HPS.out hqn hf1 hf2
  rw [HRR.out] at hp1 hp2
  have HP2 := hid_of2 hp2
  clear hp2
  go_wp2_with fail
  refine hp1.mono ?_
  clear hp1
  rintro e w3 ⟨hb3, hh3⟩
  have hbb3 := hbb2.trans (hb3.mono hbb2.size)
  clear hb3 hbb2
  -- both play the same
  have hboth : ∃ va c, e = .returned (.tuple #[va, errV c]) ∧ ∀ X e', Below w3.heap.size w3 X → ∀ X', RPlP r X e' X' → ∃ vb fs, e' = .returned (.tuple #[vb, .int .i64 (c : Nat)]) ∧ Below X.heap.size X X' ∧ RdF X' va fs ∧ RdF X' vb fs ∧ fs.length ≤ 40 ∧ ∀ f ∈ fs, FrG f := by
    rcases hh3 with ⟨v', fv, rfl, hf, hr⟩ | ⟨c, hc, hr, rfl⟩
    · refine ⟨v', 0, rfl, fun X e' hX X' hP => ?_⟩
      obtain ⟨hbX, ⟨vb, fs, hr', rfl, hfs⟩ | ⟨c, hc, hr', _⟩⟩ := hP
      · obtain rfl : fv.map Prod.fst = fs := by rw [hr] at hr'; exact Sum.inl.inj hr'
        obtain ⟨g1, g2⟩ := playR_frs (HRR.out.trans hr)
        exact ⟨vb, _, rfl, hbX, (hf.on (hX.trans (hbX.mono hX.size))).rd, hfs, g1, g2⟩
      · rw [hr] at hr'; cases hr'
    · refine ⟨.slice none 0 0, c, rfl, fun X e' hX X' hP => ?_⟩
      obtain ⟨hbX, ⟨vb, fs, hr', _⟩ | ⟨c', hc', hr', rfl⟩⟩ := hP
      · rw [hr] at hr'; cases hr'
      · obtain rfl : c = c' := by rw [hr] at hr'; exact Sum.inr.inj hr'
        exact ⟨.slice none 0 0, [], rfl, hbX, ⟨none, 0, rfl, by simp, by omega, fun h => absurd rfl h⟩, ⟨none, 0, rfl, by simp, by omega, fun h => absurd rfl h⟩, by simp, by simp⟩
  obtain ⟨va, c, rfl, hB⟩ := hboth
  have HB := hid_of2 hB
  clear hh3 hB
  go_wp2_with fail
  refine (HP2.out w3 (HR.out.on hbb3)).mono ?_
  intro e w4 he
  obtain ⟨vb, fs, rfl, hb4, hfa, hfb, hfl, hfg⟩ := HB.out _ _ (Below.refl _ _) _ he
  have hbb4 := hbb3.trans (hb4.mono hbb3.size)
  have HFA := hid_of2 hfa
  have HFB := hid_of2 hfb
  have HFG := hid_of2 hfg
  clear he hb4 hfa hfb hfg hbb3 HP2 HB
  go_wp2_with fail
  refine (same_ok c (errV c) rfl _).mono ?_
  rintro e wx ⟨rfl, rfl⟩
  go_wp2_with fail
  refine (sameFs_any va vb fs w4 (by omega) (frs_px HFG.out) HFA HFB).mono ?_
  rintro e w5 ⟨rfl, hb5⟩
  have hbb5 := hbb4.trans (hb5.mono hbb4.size)
  clear hb5 hbb4 HFA HFB HFG hfl
  go_wp2_with fail
  refine (mnew_any (.slice a n cap) qs w5 (HS.out.on h1 hbb5) (Nat.lt_of_lt_of_le h1 hbb5.size) (HR.out.on hbb5) HPS.out hqn).mono ?_
  rintro e w6 ⟨hb6, hh6⟩
  have hbb6 := hbb5.trans (hb6.mono hbb5.size)
  obtain ⟨cc, HCC⟩ : ∃ c, Hid (bkC qs = c) := ⟨_, (rfl : _ = _)⟩
  rw [HCC.out] at hh6
  rcases hh6 with ⟨hc0, rfl⟩ | ⟨hc0, bp, F, rfl, hM, hFl⟩
  · have hcp : (0 : Int) < (cc : Int) := by omega
    go_wp2_with fail
    refine (bookFault_any (.slice a n cap) qs w6 (HR.out.on hbb6) (fun j hj => by have := HPS.out j hj; omega) hqn cc HCC).mono ?_
    rintro e w7 ⟨rfl, hb7⟩
    go_wp2_with fail
    refine (same_ok cc (errV cc) rfl _).mono ?_
    rintro e wx ⟨rfl, rfl⟩
    go_wp2_with fail
    go_ret
    exact ⟨rfl, hbb6.trans (hb7.mono hbb6.size)⟩
  subst hc0
  have HM6 := hid_of2 hM
  have HFL6 := hid_of2 hFl
  have HBK : Hid (Book qs) := book_of HCC.out
  have HW0 : Hid (Way qs ms0) := way0 HBK.out
  have hcn : ¬ (0 : Int) < ((0 : Nat) : Int) := by omega
  have hB5 := hb6.size
  clear hM hFl
  go_wp2_with fail
  refine (bookFault_any (.slice a n cap) qs w6 (HR.out.on hbb6) (fun j hj => by have := HPS.out j hj; omega) hqn 0 HCC).mono ?_
  rintro e w7 ⟨rfl, hb7⟩
  have hbb7 := hbb6.trans (hb7.mono hbb6.size)
  have hMx : RMac (w7.alloc (.cells #[.slice a n cap, .int .i64 0, .slice none 0 0, .slice none 0 0, .slice none 0 0, .int .i64 0, .int .i64 0, .slice none 0 0] 44)) w7.heap.size (fun x => x = w7.heap.size ∨ x ∈ F) qs ms0 :=
    rmac_begin w w7 (.slice a n cap) qs F HR.out hbb7 (fun x hx => ⟨by have := HM6.out.low x hx; have := hbb5.size; omega, Nat.lt_of_lt_of_le (HFL6.out x hx) hb7.size⟩)
  have hbx : Below w7.heap.size w7 (w7.alloc (.cells #[.slice a n cap, .int .i64 0, .slice none 0 0, .slice none 0 0, .slice none 0 0, .int .i64 0, .int .i64 0, .slice none 0 0] 44)) := (Below.refl _ _).alloc (Nat.le_refl _) _
  have HM7 := hid_of2 ((HM6.out.on hb7).on hbx)
  have hnF : w7.heap.size ∉ F := fun hm => by have := HFL6.out _ hm; have := hb7.size; omega
  have hbb8 := hbb7.trans (hbx.mono hbb7.size)
  obtain ⟨b2, HB2⟩ : ∃ b, Hid (w7.heap.size = b) := ⟨_, (rfl : _ = _)⟩
  have hb2w : w.heap.size ≤ w7.heap.size := hbb7.size
  rw [HB2.out] at hMx hnF hb2w
  have HMX := hid_of2 hMx
  have hw5 : w.heap.size ≤ w5.heap.size := hbb5.size
  clear hMx hb6 hb7 hbx HM6 HFL6 hbb7 hbb6 hbb5 hB5
  go_wp2_with fail
  rw [HB2.out]
  go_loopw [14, 15] (fun i _ wr => ∃ (k : Nat) (st : Ms) (G : List Nat), k ≤ 150 ∧ i = .int .i64 k ∧ Hid (Mac wr w5.heap.size bp G qs st) ∧ Hid (RMac wr b2 (fun x => x = b2 ∨ x ∈ G) qs st) ∧ Hid (b2 ∉ G) ∧ Hid (Way qs st) ∧ Hid (∀ f ∈ st.frs, FrG f) ∧ Below w.heap.size w wr) (fun i _ _ => 150 - (intOf i).toNat)
  case atStart => exact ⟨0, ms0, F, by omega, rfl, HM7, HMX, hnF, HW0, by unfold Hid; simp [ms0], hbb8⟩
  case round =>
    clear HM7 HMX hnF HW0 hbb8 HB2
    obtain ⟨k, st, G, hk, rfl, HM, HX, HNG, HWS, HFG, hbr⟩ := hrel
    by_cases hlt : k < 150
    case neg =>
      have hki : ¬ (k : Int) < 150 := by omega
      go_wp2_with fail
      go_ret
      exact ⟨rfl, hbr⟩
    have hki : (k : Int) < 150 := by omega
    go_wp2_with fail
    refine (rstep_any b2 (fun x => x = b2 ∨ x ∈ G) qs st wr HX HBK HWS).mono ?_
    rintro e wa ⟨rfl, hma, hfa⟩
    obtain ⟨r, HRS⟩ : ∃ r, Hid (stepM qs st = r) := ⟨_, (rfl : _ = _)⟩
    rw [HRS.out] at hma ⊢
    have hba : Below w.heap.size w wa := hbr.trans (hfa.belowB (by intro x hx; simp at hx; subst hx; exact hb2w) hbr.size)
    have HMA : Hid (Mac wa w5.heap.size bp G qs st) := by
      obtain ⟨_, _, _, _, _, hx1, _⟩ := HX.out
      exact HM.out.beside (only_box hx1 hfa)
    obtain ⟨c, HC⟩ : ∃ c, Hid (numM r = c) := ⟨_, (rfl : _ = _)⟩
    obtain ⟨s', HS'⟩ : ∃ s', Hid (nxtM st r = s') := ⟨_, (rfl : _ = _)⟩
    have HWS' : Hid (Way qs s') := by
      unfold Hid; rw [← HS'.out]
      cases r with
      | inl t => exact stepM_way HBK.out HWS.out HRS.out
      | inr c => exact HWS.out
    have HFG' : Hid (∀ f ∈ s'.frs, FrG f) := by
      unfold Hid; rw [← HS'.out]
      cases r with
      | inl t => exact stepM_frs HBK.out HWS.out HRS.out HFG.out
      | inr c => exact HFG.out
    rw [HS'.out] at hma
    rw [HC.out]
    have HXA := hid_of2 hma
    -- what the reference's machine and the book hold
    obtain ⟨vl, vt, vo, vs, vf, hx1, hx2⟩ := hma
    obtain ⟨m0, m1, m2, m3, m4, m5, m6, m7, -, -, -, -, -, -, -, -, mlt⟩ := box_eight hx1
    obtain ⟨oa, oc, hvo, _, _, _⟩ := id hx2.obs
    obtain ⟨fv, hfv1, hfv2, -, -⟩ := hx2.frs
    obtain ⟨fa, fc, hvf⟩ := own_any hfv1.1
    subst hvo hvf
    obtain ⟨on, HON⟩ : ∃ n, Hid (s'.obs.length = n) := ⟨_, (rfl : _ = _)⟩
    obtain ⟨fm, HFM⟩ : ∃ n, Hid (fv.length = n) := ⟨_, (rfl : _ = _)⟩
    obtain ⟨pc, HPC⟩ : ∃ n, Hid (s'.pc = n) := ⟨_, (rfl : _ = _)⟩
    have hpc := HWS'.out.on
    rw [HON.out] at m3 hx2 hx1
    rw [HFM.out] at m7 hx2 hx1 hfv1
    rw [HPC.out, HN.out] at hpc
    rw [HPC.out] at m1
    obtain ⟨q, HXQ⟩ : ∃ q, Hid (qs.getD pc pq0 = q) := ⟨_, (rfl : _ = _)⟩
    obtain ⟨g, o, pua, pum, puc, rfl, hg, OC, -, -⟩ := HR.out.at hpc HXQ
    obtain ⟨c0, -, -, -, -, -, -, -, -⟩ := OC.on hg hba
    have hga : g < wa.heap.size := Nat.lt_of_lt_of_le hg hba.size
    have hpi : (pc : Int) < (n : Int) := by omega
    have hpi0 : (0 : Int) ≤ (pc : Int) := by omega
    obtain ⟨tt, HTT⟩ : ∃ t, Hid (decide ((qs.getD s'.pc pq0).kind = 16) = t) := ⟨_, (rfl : _ = _)⟩
    have htt : (q.kind == 16) = tt := by
      rw [← HTT.out, HPC.out, HXQ.out]
      by_cases hq : q.kind = 16 <;> simp [hq]
    have HOB : Hid (RdOn (fun x => x = b2 ∨ x ∈ G) wa (.slice oa on oc) s'.obs) := hx2.obs
    have HGS : Hid (∀ (x : Nat), x ∈ G → w.heap.size ≤ x) := fun x hx => by have := HMA.out.low x hx; omega
    have HRX := hid_of2 hx2
    have HBXA := hid_of2 hx1
    clear hx1 hx2 hfv1 hfv2 OC hfa HM HX
    have KEEP : Hid (∀ w', Below wa.heap.size wa w' → w'.cell? ⟨b2, 1, none⟩ = some (.int .i64 (pc : Int)) ∧ w'.cell? ⟨b2, 3, none⟩ = some (.slice oa on oc) ∧ w'.cell? ⟨b2, 7, none⟩ = some (.slice fa fm fc) ∧ w'.cell? ⟨g, o + pc * 9, none⟩ = some (.int .i64 q.kind)) := by
      intro w' h
      refine ⟨?_, ?_, ?_, ?_⟩
      · rw [h.cell (p := ⟨b2, 1, none⟩) mlt]; exact m1
      · rw [h.cell (p := ⟨b2, 3, none⟩) mlt]; exact m3
      · rw [h.cell (p := ⟨b2, 7, none⟩) mlt]; exact m7
      · rw [h.cell (p := ⟨g, o + pc * 9, none⟩) hga]; exact c0
    go_wp2_with fail
    refine wp_region_held_drew (S := (fun w' => w'.cell? ⟨b2, 1, none⟩ = some (.int .i64 (pc : Int)) ∧ w'.cell? ⟨b2, 3, none⟩ = some (.slice oa on oc) ∧ w'.cell? ⟨b2, 7, none⟩ = some (.slice fa fm fc) ∧ w'.cell? ⟨g, o + pc * 9, none⟩ = some (.int .i64 q.kind))) (by kernel_rfl) ?_ (fun hHeld => ?_)
    · exact KEEP.out _ (Below.refl _ _).drew
    refine wpAnyH_take (i := 0) (oi := ({ dst := some 78, op := Op.move (Operand.tmp 10), type := 34, pos := "law.go:326", after := #[], guard := none } : Oper)) (v := ?_) rfl (by kernel_rfl) (by kernel_rfl) (by kernel_rfl) (fun _ _ _ h => h) (Or.inl ⟨by rfl, ?_⟩) (by assumption) ?_
    rotate_left
    · (intro w hSw; (try dsimp only at hSw); go_simp; try with_reducible rfl)
    try simp only [Act.put, List.setIfInBounds_toArray, List.set_cons_zero, List.set_cons_succ]
    refine wpAnyH_take (i := 2) (oi := ({ dst := some 80, op := Op.move (Operand.tmp 15), type := 3, pos := "law.go:326", after := #[], guard := none } : Oper)) (v := ?_) rfl (by kernel_rfl) (by kernel_rfl) (by kernel_rfl) (fun _ _ _ h => h) (Or.inl ⟨by rfl, ?_⟩) (by assumption) ?_
    rotate_left
    · (intro w hSw; (try dsimp only at hSw); go_simp; try with_reducible rfl)
    try simp only [Act.put, List.setIfInBounds_toArray, List.set_cons_zero, List.set_cons_succ]
    refine wpAnyH_ready (rs := [1]) (by kernel_rfl) (by simp) ?_
    refine AllReadyH.cons (o := ({ dst := some 79, op := Op.call { callee := Callee.value (Operand.func 13), args := #[Operand.tmp 78], argTypes := #[34] }, type := 27, pos := "law.go:326", after := #[{ on := 0, ground := Ground.data }], guard := none } : Oper)) rfl (fun K_ hK => ?_) AllReadyH.nil
    go_simp
    refine (mstep_any w5.heap.size bp G qs st wa.drew (HMA.out.on (Below.refl _ _).drew) HBK HWS).mono ?_
    unfold MacP
    rw [HRS.out, HC.out, HS'.out]
    rintro e wb ⟨G', rfl, hmb, hfb⟩
    obtain ⟨hxb, hngb⟩ := RMac.beside (HXA.out.on (Below.refl _ _).drew) HNG.out hfb
    have HMB := hid_of2 hmb
    have HXB := hid_of2 hxb
    have HNB := hid_of2 hngb
    have hbb : Below w.heap.size w wb := hba.drew.trans (hfb.belowB HGS.out (by have := hba.size; exact this))
    have hk : wb.cell? ⟨b2, 1, none⟩ = some (.int .i64 (pc : Int)) ∧ wb.cell? ⟨b2, 3, none⟩ = some (.slice oa on oc) ∧ wb.cell? ⟨b2, 7, none⟩ = some (.slice fa fm fc) ∧ wb.cell? ⟨g, o + pc * 9, none⟩ = some (.int .i64 q.kind) := by
      have hk0 := KEEP.out wa.drew (Below.refl _ _).drew
      have hlt2 : b2 < wa.drew.heap.size := mlt
      have hltg : g < wa.drew.heap.size := hga
      have hgG : g ∉ G := fun hm => by have := HGS.out g hm; omega
      refine ⟨?_, ?_, ?_, ?_⟩
      · rw [hfb.cell hlt2 HNG.out]; exact hk0.1
      · rw [hfb.cell hlt2 HNG.out]; exact hk0.2.1
      · rw [hfb.cell hlt2 HNG.out]; exact hk0.2.2.1
      · rw [hfb.cell hltg hgG]; exact hk0.2.2.2
    have hb2b : b2 < wb.heap.size := Nat.lt_of_lt_of_le mlt (by have := hfb.size; exact this)
    have hgb : g < wb.heap.size := Nat.lt_of_lt_of_le hga (by have := hfb.size; exact this)
    obtain ⟨d1, d3, d7, e0⟩ := hk
    clear hmb hxb hngb hfb KEEP m0 m1 m2 m3 m4 m5 m6 m7 c0
    have KEEP : Hid (∀ w', Below wb.heap.size wb w' → w'.cell? ⟨b2, 1, none⟩ = some (.int .i64 (pc : Int)) ∧ w'.cell? ⟨b2, 3, none⟩ = some (.slice oa on oc) ∧ w'.cell? ⟨b2, 7, none⟩ = some (.slice fa fm fc) ∧ w'.cell? ⟨g, o + pc * 9, none⟩ = some (.int .i64 q.kind)) := by
      intro w' h
      refine ⟨?_, ?_, ?_, ?_⟩
      · rw [h.cell (p := ⟨b2, 1, none⟩) hb2b]; exact d1
      · rw [h.cell (p := ⟨b2, 3, none⟩) hb2b]; exact d3
      · rw [h.cell (p := ⟨b2, 7, none⟩) hb2b]; exact d7
      · rw [h.cell (p := ⟨g, o + pc * 9, none⟩) hgb]; exact e0
    refine hK.out _ _ ?_ (fun hHeld => ?_)
    · exact ⟨d1, d3, d7, e0⟩
    clear hK K_
    try simp only [Act.put, List.setIfInBounds_toArray, List.set_cons_zero, List.set_cons_succ]
    refine wpAnyH_ready (rs := [3]) (by kernel_rfl) (by simp) ?_
    refine AllReadyH.cons (o := ({ dst := some 81, op := Op.call { callee := Callee.value (Operand.func 8), args := #[Operand.tmp 79, Operand.tmp 80], argTypes := #[27, 3] }, type := 4, pos := "law.go:326", after := #[{ on := 1, ground := Ground.data }, { on := 2, ground := Ground.data }, { on := 1, ground := Ground.chain }], guard := none } : Oper)) rfl (fun K_ hK => ?_) AllReadyH.nil
    go_simp
    refine (same_ok c (errV c) rfl _).mono ?_
    rintro e wx ⟨rfl, rfl⟩
    refine hK.out _ _ ?_ (fun hHeld => ?_)
    · exact ⟨d1, d3, d7, e0⟩
    clear hK K_
    try simp only [Act.put, List.setIfInBounds_toArray, List.set_cons_zero, List.set_cons_succ]
    refine wpAnyH_take (i := 4) (oi := ({ dst := some 82, op := Op.unOp UnOp.not 4 (Operand.tmp 81), type := 4, pos := "law.go:326", after := #[{ on := 3, ground := Ground.data }], guard := none } : Oper)) (v := ?_) rfl (by kernel_rfl) (by kernel_rfl) (by kernel_rfl) (fun _ _ _ h => h) (Or.inl ⟨by rfl, ?_⟩) (by assumption) ?_
    rotate_left
    · (intro w hSw; (try dsimp only at hSw); go_simp; try with_reducible rfl)
    try simp only [Act.put, List.setIfInBounds_toArray, List.set_cons_zero, List.set_cons_succ]
    refine wpAnyH_take (i := 5) (oi := ({ dst := some 83, op := Op.move (Operand.tmp 82), type := 4, pos := "law.go:326", after := #[{ on := 4, ground := Ground.data }, { on := 3, ground := Ground.chain }], guard := none } : Oper)) (v := ?_) rfl (by kernel_rfl) (by kernel_rfl) (by kernel_rfl) (fun _ _ _ h => h) (Or.inl ⟨by rfl, ?_⟩) (by assumption) ?_
    rotate_left
    · (intro w hSw; (try dsimp only at hSw); go_simp; try with_reducible rfl)
    try simp only [Act.put, List.setIfInBounds_toArray, List.set_cons_zero, List.set_cons_succ]
    refine wpAnyH_take (i := 6) (oi := ({ dst := some 84, op := Op.move (Operand.tmp 10), type := 34, pos := "law.go:326", after := #[{ on := 5, ground := Ground.guard }], guard := some (5, false) } : Oper)) (v := ?_) rfl (by kernel_rfl) (by kernel_rfl) (by kernel_rfl) (fun _ _ _ h => h) (Or.inl ⟨by rfl, ?_⟩) (by assumption) ?_
    rotate_left
    · (intro w hSw; (try dsimp only at hSw); go_simp; try with_reducible rfl)
    try simp only [Act.put, List.setIfInBounds_toArray, List.set_cons_zero, List.set_cons_succ]
    refine wpAnyH_take (i := 8) (oi := ({ dst := some 86, op := Op.move (Operand.tmp 13), type := 38, pos := "law.go:326", after := #[{ on := 5, ground := Ground.guard }], guard := some (5, false) } : Oper)) (v := ?_) rfl (by kernel_rfl) (by kernel_rfl) (by kernel_rfl) (fun _ _ _ h => h) (Or.inl ⟨by rfl, ?_⟩) (by assumption) ?_
    rotate_left
    · (intro w hSw; (try dsimp only at hSw); go_simp; try with_reducible rfl)
    try simp only [Act.put, List.setIfInBounds_toArray, List.set_cons_zero, List.set_cons_succ]
    refine wpAnyH_take (i := 9) (oi := ({ dst := some 87, op := Op.nilCheck (Operand.tmp 86), type := 0, pos := "law.go:326", after := #[{ on := 8, ground := Ground.data }, { on := 5, ground := Ground.guard }], guard := some (5, false) } : Oper)) (v := ?_) rfl (by kernel_rfl) (by kernel_rfl) (by kernel_rfl) (fun _ _ _ h => h) (Or.inl ⟨by rfl, ?_⟩) (by assumption) ?_
    rotate_left
    · (intro w hSw; (try dsimp only at hSw); go_simp; try with_reducible rfl)
    try simp only [Act.put, List.setIfInBounds_toArray, List.set_cons_zero, List.set_cons_succ]
    refine wpAnyH_take (i := 10) (oi := ({ dst := some 88, op := Op.fieldAddr 44 (Operand.tmp 87) 1, type := 0, pos := "law.go:326", after := #[{ on := 9, ground := Ground.data }, { on := 5, ground := Ground.guard }], guard := some (5, false) } : Oper)) (v := ?_) rfl (by kernel_rfl) (by kernel_rfl) (by kernel_rfl) (fun _ _ _ h => h) (Or.inl ⟨by rfl, ?_⟩) (by assumption) ?_
    rotate_left
    · (intro w hSw; (try dsimp only at hSw); go_simp; try with_reducible rfl)
    try simp only [Act.put, List.setIfInBounds_toArray, List.set_cons_zero, List.set_cons_succ]
    refine wpAnyH_take (i := 11) (oi := ({ dst := some 89, op := Op.load 3 (Operand.tmp 88), type := 3, pos := "law.go:326", after := #[{ on := 10, ground := Ground.data }, { on := 5, ground := Ground.guard }], guard := some (5, false) } : Oper)) (v := ?_) rfl (by kernel_rfl) (by kernel_rfl) (by kernel_rfl) (fun _ _ _ h => h) (Or.inl ⟨by rfl, ?_⟩) (by assumption) ?_
    rotate_left
    · (intro w hSw; (try dsimp only at hSw); go_simp; try with_reducible rfl)
    try simp only [Act.put, List.setIfInBounds_toArray, List.set_cons_zero, List.set_cons_succ]
    refine wpAnyH_ready (rs := [7]) (by kernel_rfl) (by simp) ?_
    refine AllReadyH.cons (o := ({ dst := some 85, op := Op.call { callee := Callee.value (Operand.func 14), args := #[Operand.tmp 84], argTypes := #[34] }, type := 3, pos := "law.go:326", after := #[{ on := 6, ground := Ground.data }, { on := 5, ground := Ground.chain }, { on := 5, ground := Ground.guard }], guard := some (5, false) } : Oper)) rfl (fun K_ hK => ?_) AllReadyH.nil
    go_simp
    refine (mat_any w5.heap.size bp G' qs s' _ HMB).mono ?_
    rw [HPC.out]
    rintro e wc ⟨rfl, hbc⟩
    have HBC := hid_of2 hbc
    clear hbc
    refine hK.out _ _ ?_ (fun hHeld => ?_)
    · exact KEEP.out _ HBC.out
    clear hK K_
    try simp only [Act.put, List.setIfInBounds_toArray, List.set_cons_zero, List.set_cons_succ]
    refine wpAnyH_take (i := 12) (oi := ({ dst := some 90, op := Op.binOp BinOp.neq 3 (Operand.tmp 85) (Operand.tmp 89) 3, type := 4, pos := "law.go:326", after := #[{ on := 7, ground := Ground.data }, { on := 11, ground := Ground.data }, { on := 5, ground := Ground.guard }], guard := some (5, false) } : Oper)) (v := ?_) rfl (by kernel_rfl) (by kernel_rfl) (by kernel_rfl) (fun _ _ _ h => h) (Or.inl ⟨by rfl, ?_⟩) (by assumption) ?_
    rotate_left
    · (intro w hSw; (try dsimp only at hSw); go_simp; try with_reducible rfl)
    try simp only [Act.put, List.setIfInBounds_toArray, List.set_cons_zero, List.set_cons_succ]
    refine wpAnyH_take (i := 13) (oi := ({ dst := some 91, op := Op.pick (Operand.tmp 83) (Operand.const (Value.bool true)) (Operand.tmp 90), type := 4, pos := "law.go:326", after := #[{ on := 5, ground := Ground.data }, { on := 12, ground := Ground.data }], guard := none } : Oper)) (v := ?_) rfl (by kernel_rfl) (by kernel_rfl) (by kernel_rfl) (fun _ _ _ h => h) (Or.inl ⟨by rfl, ?_⟩) (by assumption) ?_
    rotate_left
    · (intro w hSw; (try dsimp only at hSw); go_simp; try with_reducible rfl)
    try simp only [Act.put, List.setIfInBounds_toArray, List.set_cons_zero, List.set_cons_succ]
    refine wpAnyH_take (i := 14) (oi := ({ dst := some 92, op := Op.move (Operand.tmp 91), type := 4, pos := "law.go:326", after := #[{ on := 13, ground := Ground.data }, { on := 7, ground := Ground.chain }], guard := none } : Oper)) (v := ?_) rfl (by kernel_rfl) (by kernel_rfl) (by kernel_rfl) (fun _ _ _ h => h) (Or.inl ⟨by rfl, ?_⟩) (by assumption) ?_
    rotate_left
    · (intro w hSw; (try dsimp only at hSw); go_simp; try with_reducible rfl)
    try simp only [Act.put, List.setIfInBounds_toArray, List.set_cons_zero, List.set_cons_succ]
    refine wpAnyH_take (i := 15) (oi := ({ dst := some 93, op := Op.move (Operand.tmp 10), type := 34, pos := "law.go:326", after := #[{ on := 14, ground := Ground.guard }], guard := some (14, false) } : Oper)) (v := ?_) rfl (by kernel_rfl) (by kernel_rfl) (by kernel_rfl) (fun _ _ _ h => h) (Or.inl ⟨by rfl, ?_⟩) (by assumption) ?_
    rotate_left
    · (intro w hSw; (try dsimp only at hSw); go_simp; try with_reducible rfl)
    try simp only [Act.put, List.setIfInBounds_toArray, List.set_cons_zero, List.set_cons_succ]
    refine wpAnyH_take (i := 17) (oi := ({ dst := some 95, op := Op.move (Operand.tmp 0), type := 22, pos := "law.go:326", after := #[{ on := 14, ground := Ground.guard }], guard := some (14, false) } : Oper)) (v := ?_) rfl (by kernel_rfl) (by kernel_rfl) (by kernel_rfl) (fun _ _ _ h => h) (Or.inl ⟨by rfl, ?_⟩) (by assumption) ?_
    rotate_left
    · (intro w hSw; (try dsimp only at hSw); go_simp; try with_reducible rfl)
    try simp only [Act.put, List.setIfInBounds_toArray, List.set_cons_zero, List.set_cons_succ]
    refine wpAnyH_take (i := 18) (oi := ({ dst := some 96, op := Op.move (Operand.tmp 13), type := 38, pos := "law.go:326", after := #[{ on := 14, ground := Ground.guard }], guard := some (14, false) } : Oper)) (v := ?_) rfl (by kernel_rfl) (by kernel_rfl) (by kernel_rfl) (fun _ _ _ h => h) (Or.inl ⟨by rfl, ?_⟩) (by assumption) ?_
    rotate_left
    · (intro w hSw; (try dsimp only at hSw); go_simp; try with_reducible rfl)
    try simp only [Act.put, List.setIfInBounds_toArray, List.set_cons_zero, List.set_cons_succ]
    refine wpAnyH_take (i := 19) (oi := ({ dst := some 97, op := Op.nilCheck (Operand.tmp 96), type := 0, pos := "law.go:326", after := #[{ on := 18, ground := Ground.data }, { on := 14, ground := Ground.guard }], guard := some (14, false) } : Oper)) (v := ?_) rfl (by kernel_rfl) (by kernel_rfl) (by kernel_rfl) (fun _ _ _ h => h) (Or.inl ⟨by rfl, ?_⟩) (by assumption) ?_
    rotate_left
    · (intro w hSw; (try dsimp only at hSw); go_simp; try with_reducible rfl)
    try simp only [Act.put, List.setIfInBounds_toArray, List.set_cons_zero, List.set_cons_succ]
    refine wpAnyH_take (i := 20) (oi := ({ dst := some 98, op := Op.fieldAddr 44 (Operand.tmp 97) 1, type := 0, pos := "law.go:326", after := #[{ on := 19, ground := Ground.data }, { on := 14, ground := Ground.guard }], guard := some (14, false) } : Oper)) (v := ?_) rfl (by kernel_rfl) (by kernel_rfl) (by kernel_rfl) (fun _ _ _ h => h) (Or.inl ⟨by rfl, ?_⟩) (by assumption) ?_
    rotate_left
    · (intro w hSw; (try dsimp only at hSw); go_simp; try with_reducible rfl)
    try simp only [Act.put, List.setIfInBounds_toArray, List.set_cons_zero, List.set_cons_succ]
    refine wpAnyH_take (i := 21) (oi := ({ dst := some 99, op := Op.load 3 (Operand.tmp 98), type := 3, pos := "law.go:326", after := #[{ on := 20, ground := Ground.data }, { on := 14, ground := Ground.guard }], guard := some (14, false) } : Oper)) (v := ?_) rfl (by kernel_rfl) (by kernel_rfl) (by kernel_rfl) (fun _ _ _ h => h) (Or.inl ⟨by rfl, ?_⟩) (by assumption) ?_
    rotate_left
    · (intro w hSw; (try dsimp only at hSw); go_simp; try with_reducible rfl)
    try simp only [Act.put, List.setIfInBounds_toArray, List.set_cons_zero, List.set_cons_succ]
    refine wpAnyH_take (i := 22) (oi := ({ dst := some 100, op := Op.indexAddr 22 (Operand.tmp 95) (Operand.tmp 99), type := 0, pos := "law.go:326", after := #[{ on := 17, ground := Ground.data }, { on := 21, ground := Ground.data }, { on := 14, ground := Ground.guard }], guard := some (14, false) } : Oper)) (v := ?_) rfl (by kernel_rfl) (by kernel_rfl) (by kernel_rfl) (fun _ _ _ h => h) (Or.inl ⟨by rfl, ?_⟩) (by assumption) ?_
    rotate_left
    · (intro w hSw; (try dsimp only at hSw); go_simp; try with_reducible rfl)
    try simp only [Act.put, List.setIfInBounds_toArray, List.set_cons_zero, List.set_cons_succ]
    refine wpAnyH_take (i := 23) (oi := ({ dst := some 101, op := Op.fieldAddr 51 (Operand.tmp 100) 0, type := 0, pos := "law.go:326", after := #[{ on := 22, ground := Ground.data }, { on := 14, ground := Ground.guard }], guard := some (14, false) } : Oper)) (v := ?_) rfl (by kernel_rfl) (by kernel_rfl) (by kernel_rfl) (fun _ _ _ h => h) (Or.inl ⟨by rfl, ?_⟩) (by assumption) ?_
    rotate_left
    · (intro w hSw; (try dsimp only at hSw); go_simp; try with_reducible rfl)
    try simp only [Act.put, List.setIfInBounds_toArray, List.set_cons_zero, List.set_cons_succ]
    refine wpAnyH_take (i := 24) (oi := ({ dst := some 102, op := Op.load 3 (Operand.tmp 101), type := 3, pos := "law.go:326", after := #[{ on := 23, ground := Ground.data }, { on := 14, ground := Ground.guard }], guard := some (14, false) } : Oper)) (v := ?_) rfl (by kernel_rfl) (by kernel_rfl) (by kernel_rfl) (fun _ _ _ h => h) (Or.inl ⟨by rfl, ?_⟩) (by assumption) ?_
    rotate_left
    · (intro w hSw; (try dsimp only at hSw); go_simp; try with_reducible rfl)
    try simp only [Act.put, List.setIfInBounds_toArray, List.set_cons_zero, List.set_cons_succ]
    refine wpAnyH_take (i := 25) (oi := ({ dst := some 103, op := Op.binOp BinOp.eql 3 (Operand.tmp 102) (Operand.const (Value.int IntKind.i64 16)) 3, type := 4, pos := "law.go:326", after := #[{ on := 24, ground := Ground.data }, { on := 14, ground := Ground.guard }], guard := some (14, false) } : Oper)) (v := ?_) rfl (by kernel_rfl) (by kernel_rfl) (by kernel_rfl) (fun _ _ _ h => h) (Or.inl ⟨by rfl, ?_⟩) (by assumption) ?_
    rotate_left
    · (intro w hSw; (try dsimp only at hSw); go_simp; try with_reducible rfl)
    try simp only [Act.put, List.setIfInBounds_toArray, List.set_cons_zero, List.set_cons_succ]
    refine wpAnyH_ready (rs := [16]) (by kernel_rfl) (by simp) ?_
    refine AllReadyH.cons (o := ({ dst := some 94, op := Op.call { callee := Callee.value (Operand.func 15), args := #[Operand.tmp 93], argTypes := #[34] }, type := 4, pos := "law.go:326", after := #[{ on := 15, ground := Ground.data }, { on := 14, ground := Ground.chain }, { on := 14, ground := Ground.guard }], guard := some (14, false) } : Oper)) rfl (fun K_ hK => ?_) AllReadyH.nil
    go_simp
    refine (mdone_any w5.heap.size bp G' qs s' _ (HMB.out.on HBC.out) HWS'.out.on tt HTT).mono ?_
    rintro e wd ⟨rfl, hbd⟩
    have HBD := hid_of2 (HBC.out.trans (hbd.mono HBC.out.size))
    clear hbd
    refine hK.out _ _ ?_ (fun hHeld => ?_)
    · exact KEEP.out _ HBD.out
    clear hK K_
    try simp only [Act.put, List.setIfInBounds_toArray, List.set_cons_zero, List.set_cons_succ]
    refine wpAnyH_take (i := 26) (oi := ({ dst := some 104, op := Op.binOp BinOp.neq 4 (Operand.tmp 94) (Operand.tmp 103) 4, type := 4, pos := "law.go:326", after := #[{ on := 16, ground := Ground.data }, { on := 25, ground := Ground.data }, { on := 14, ground := Ground.guard }], guard := some (14, false) } : Oper)) (v := ?_) rfl (by kernel_rfl) (by kernel_rfl) (by kernel_rfl) (fun _ _ _ h => h) (Or.inl ⟨by rfl, ?_⟩) (by assumption) ?_
    rotate_left
    · (intro w hSw; (try dsimp only at hSw); go_simp; try with_reducible rfl)
    try simp only [Act.put, List.setIfInBounds_toArray, List.set_cons_zero, List.set_cons_succ]
    refine wpAnyH_take (i := 27) (oi := ({ dst := some 105, op := Op.pick (Operand.tmp 92) (Operand.const (Value.bool true)) (Operand.tmp 104), type := 4, pos := "law.go:326", after := #[{ on := 14, ground := Ground.data }, { on := 26, ground := Ground.data }], guard := none } : Oper)) (v := ?_) rfl (by kernel_rfl) (by kernel_rfl) (by kernel_rfl) (fun _ _ _ h => h) (Or.inl ⟨by rfl, ?_⟩) (by assumption) ?_
    rotate_left
    · (intro w hSw; (try dsimp only at hSw); go_simp; try with_reducible rfl)
    try simp only [Act.put, List.setIfInBounds_toArray, List.set_cons_zero, List.set_cons_succ]
    refine wpAnyH_take (i := 28) (oi := ({ dst := some 106, op := Op.move (Operand.tmp 105), type := 4, pos := "law.go:326", after := #[{ on := 27, ground := Ground.data }, { on := 16, ground := Ground.chain }], guard := none } : Oper)) (v := ?_) rfl (by kernel_rfl) (by kernel_rfl) (by kernel_rfl) (fun _ _ _ h => h) (Or.inl ⟨by rfl, ?_⟩) (by assumption) ?_
    rotate_left
    · (intro w hSw; (try dsimp only at hSw); go_simp; try with_reducible rfl)
    try simp only [Act.put, List.setIfInBounds_toArray, List.set_cons_zero, List.set_cons_succ]
    refine wpAnyH_take (i := 29) (oi := ({ dst := some 107, op := Op.move (Operand.tmp 10), type := 34, pos := "law.go:326", after := #[{ on := 28, ground := Ground.guard }], guard := some (28, false) } : Oper)) (v := ?_) rfl (by kernel_rfl) (by kernel_rfl) (by kernel_rfl) (fun _ _ _ h => h) (Or.inl ⟨by rfl, ?_⟩) (by assumption) ?_
    rotate_left
    · (intro w hSw; (try dsimp only at hSw); go_simp; try with_reducible rfl)
    try simp only [Act.put, List.setIfInBounds_toArray, List.set_cons_zero, List.set_cons_succ]
    refine wpAnyH_take (i := 31) (oi := ({ dst := some 109, op := Op.move (Operand.tmp 13), type := 38, pos := "law.go:326", after := #[{ on := 28, ground := Ground.guard }], guard := some (28, false) } : Oper)) (v := ?_) rfl (by kernel_rfl) (by kernel_rfl) (by kernel_rfl) (fun _ _ _ h => h) (Or.inl ⟨by rfl, ?_⟩) (by assumption) ?_
    rotate_left
    · (intro w hSw; (try dsimp only at hSw); go_simp; try with_reducible rfl)
    try simp only [Act.put, List.setIfInBounds_toArray, List.set_cons_zero, List.set_cons_succ]
    refine wpAnyH_take (i := 32) (oi := ({ dst := some 110, op := Op.nilCheck (Operand.tmp 109), type := 0, pos := "law.go:326", after := #[{ on := 31, ground := Ground.data }, { on := 28, ground := Ground.guard }], guard := some (28, false) } : Oper)) (v := ?_) rfl (by kernel_rfl) (by kernel_rfl) (by kernel_rfl) (fun _ _ _ h => h) (Or.inl ⟨by rfl, ?_⟩) (by assumption) ?_
    rotate_left
    · (intro w hSw; (try dsimp only at hSw); go_simp; try with_reducible rfl)
    try simp only [Act.put, List.setIfInBounds_toArray, List.set_cons_zero, List.set_cons_succ]
    refine wpAnyH_take (i := 33) (oi := ({ dst := some 111, op := Op.fieldAddr 44 (Operand.tmp 110) 3, type := 0, pos := "law.go:326", after := #[{ on := 32, ground := Ground.data }, { on := 28, ground := Ground.guard }], guard := some (28, false) } : Oper)) (v := ?_) rfl (by kernel_rfl) (by kernel_rfl) (by kernel_rfl) (fun _ _ _ h => h) (Or.inl ⟨by rfl, ?_⟩) (by assumption) ?_
    rotate_left
    · (intro w hSw; (try dsimp only at hSw); go_simp; try with_reducible rfl)
    try simp only [Act.put, List.setIfInBounds_toArray, List.set_cons_zero, List.set_cons_succ]
    refine wpAnyH_take (i := 34) (oi := ({ dst := some 112, op := Op.load 40 (Operand.tmp 111), type := 40, pos := "law.go:326", after := #[{ on := 33, ground := Ground.data }, { on := 28, ground := Ground.guard }], guard := some (28, false) } : Oper)) (v := ?_) rfl (by kernel_rfl) (by kernel_rfl) (by kernel_rfl) (fun _ _ _ h => h) (Or.inl ⟨by rfl, ?_⟩) (by assumption) ?_
    rotate_left
    · (intro w hSw; (try dsimp only at hSw); go_simp; try with_reducible rfl)
    try simp only [Act.put, List.setIfInBounds_toArray, List.set_cons_zero, List.set_cons_succ]
    refine wpAnyH_ready (rs := [30]) (by kernel_rfl) (by simp) ?_
    refine AllReadyH.cons (o := ({ dst := some 108, op := Op.call { callee := Callee.value (Operand.func 17), args := #[Operand.tmp 107], argTypes := #[34] }, type := 40, pos := "law.go:326", after := #[{ on := 29, ground := Ground.data }, { on := 28, ground := Ground.chain }, { on := 28, ground := Ground.guard }], guard := some (28, false) } : Oper)) rfl (fun K_ hK => ?_) AllReadyH.nil
    go_simp
    refine (mobj_any w5.heap.size bp G' qs s' _ (HMB.out.on HBD.out) HWS'.out.obs).mono ?_
    rintro e we ⟨v1, ov, rfl, ho1, ho2, hbe⟩
    have HBE := hid_of2 (HBD.out.trans (hbe.mono HBD.out.size))
    have HO1 : Hid (RdO we v1 s'.obs) := by have := ho1.rd; rw [ho2] at this; exact this
    obtain ⟨a1, c1, hv1⟩ := own_any ho1.1
    subst hv1
    clear hbe ho1 ho2
    refine hK.out _ _ ?_ (fun hHeld => ?_)
    · exact KEEP.out _ HBE.out
    clear hK K_
    try simp only [Act.put, List.setIfInBounds_toArray, List.set_cons_zero, List.set_cons_succ]
    have HO2 : Hid (RdO we (.slice oa on oc) s'.obs) := by
      obtain ⟨vl2, vt2, vo2, vs2, vf2, y1, y2⟩ := HXB.out.on HBE.out
      obtain rfl : vo2 = .slice oa on oc := by
        have h := (box_eight y1).c3
        rw [(KEEP.out _ HBE.out).2.1] at h
        exact (Option.some.inj h).symm
      exact @Go.Proofs.YtjmkfcgnadpbaaaDoor.NI.RdO.rd ⟨⟨_⟩⟩ _ _ _ y2.obs
    have hgood := HWS'.out.obs.good
    refine wpAnyH_ready (rs := [35]) (by kernel_rfl) (by simp) ?_
    refine AllReadyH.cons (o := ({ dst := some 113, op := Op.call { callee := Callee.value (Operand.func 16), args := #[Operand.tmp 108, Operand.tmp 112], argTypes := #[40, 40] }, type := 4, pos := "law.go:326", after := #[{ on := 30, ground := Ground.data }, { on := 34, ground := Ground.data }, { on := 30, ground := Ground.chain }, { on := 28, ground := Ground.guard }], guard := some (28, false) } : Oper)) rfl (fun K_ hK => ?_) AllReadyH.nil
    go_simp
    refine (sameObs_any _ _ s'.obs we (by have := hgood.few; omega) (obs_px HWS'.out.obs) HO1 HO2).mono ?_
    rintro e wf ⟨rfl, hbf⟩
    have HBF := hid_of2 (HBE.out.trans (hbf.mono HBE.out.size))
    clear hbf
    refine hK.out _ _ ?_ (fun hHeld => ?_)
    · exact KEEP.out _ HBF.out
    clear hK K_
    try simp only [Act.put, List.setIfInBounds_toArray, List.set_cons_zero, List.set_cons_succ]
    refine wpAnyH_take (i := 36) (oi := ({ dst := some 114, op := Op.unOp UnOp.not 4 (Operand.tmp 113), type := 4, pos := "law.go:326", after := #[{ on := 35, ground := Ground.data }, { on := 28, ground := Ground.guard }], guard := some (28, false) } : Oper)) (v := ?_) rfl (by kernel_rfl) (by kernel_rfl) (by kernel_rfl) (fun _ _ _ h => h) (Or.inl ⟨by rfl, ?_⟩) (by assumption) ?_
    rotate_left
    · (intro w hSw; (try dsimp only at hSw); go_simp; try with_reducible rfl)
    try simp only [Act.put, List.setIfInBounds_toArray, List.set_cons_zero, List.set_cons_succ]
    refine wpAnyH_take (i := 37) (oi := ({ dst := some 115, op := Op.pick (Operand.tmp 106) (Operand.const (Value.bool true)) (Operand.tmp 114), type := 4, pos := "law.go:326", after := #[{ on := 28, ground := Ground.data }, { on := 36, ground := Ground.data }], guard := none } : Oper)) (v := ?_) rfl (by kernel_rfl) (by kernel_rfl) (by kernel_rfl) (fun _ _ _ h => h) (Or.inl ⟨by rfl, ?_⟩) (by assumption) ?_
    rotate_left
    · (intro w hSw; (try dsimp only at hSw); go_simp; try with_reducible rfl)
    try simp only [Act.put, List.setIfInBounds_toArray, List.set_cons_zero, List.set_cons_succ]
    refine wpAnyH_take (i := 38) (oi := ({ dst := some 116, op := Op.move (Operand.tmp 115), type := 4, pos := "law.go:326", after := #[{ on := 37, ground := Ground.data }, { on := 35, ground := Ground.chain }], guard := none } : Oper)) (v := ?_) rfl (by kernel_rfl) (by kernel_rfl) (by kernel_rfl) (fun _ _ _ h => h) (Or.inl ⟨by rfl, ?_⟩) (by assumption) ?_
    rotate_left
    · (intro w hSw; (try dsimp only at hSw); go_simp; try with_reducible rfl)
    try simp only [Act.put, List.setIfInBounds_toArray, List.set_cons_zero, List.set_cons_succ]
    refine wpAnyH_take (i := 39) (oi := ({ dst := some 117, op := Op.move (Operand.tmp 10), type := 34, pos := "law.go:326", after := #[{ on := 38, ground := Ground.guard }], guard := some (38, false) } : Oper)) (v := ?_) rfl (by kernel_rfl) (by kernel_rfl) (by kernel_rfl) (fun _ _ _ h => h) (Or.inl ⟨by rfl, ?_⟩) (by assumption) ?_
    rotate_left
    · (intro w hSw; (try dsimp only at hSw); go_simp; try with_reducible rfl)
    try simp only [Act.put, List.setIfInBounds_toArray, List.set_cons_zero, List.set_cons_succ]
    refine wpAnyH_take (i := 41) (oi := ({ dst := some 119, op := Op.move (Operand.tmp 13), type := 38, pos := "law.go:326", after := #[{ on := 38, ground := Ground.guard }], guard := some (38, false) } : Oper)) (v := ?_) rfl (by kernel_rfl) (by kernel_rfl) (by kernel_rfl) (fun _ _ _ h => h) (Or.inl ⟨by rfl, ?_⟩) (by assumption) ?_
    rotate_left
    · (intro w hSw; (try dsimp only at hSw); go_simp; try with_reducible rfl)
    try simp only [Act.put, List.setIfInBounds_toArray, List.set_cons_zero, List.set_cons_succ]
    refine wpAnyH_take (i := 42) (oi := ({ dst := some 120, op := Op.nilCheck (Operand.tmp 119), type := 0, pos := "law.go:326", after := #[{ on := 41, ground := Ground.data }, { on := 38, ground := Ground.guard }], guard := some (38, false) } : Oper)) (v := ?_) rfl (by kernel_rfl) (by kernel_rfl) (by kernel_rfl) (fun _ _ _ h => h) (Or.inl ⟨by rfl, ?_⟩) (by assumption) ?_
    rotate_left
    · (intro w hSw; (try dsimp only at hSw); go_simp; try with_reducible rfl)
    try simp only [Act.put, List.setIfInBounds_toArray, List.set_cons_zero, List.set_cons_succ]
    refine wpAnyH_take (i := 43) (oi := ({ dst := some 121, op := Op.fieldAddr 44 (Operand.tmp 120) 6, type := 0, pos := "law.go:326", after := #[{ on := 42, ground := Ground.data }, { on := 38, ground := Ground.guard }], guard := some (38, false) } : Oper)) (v := ?_) rfl (by kernel_rfl) (by kernel_rfl) (by kernel_rfl) (fun _ _ _ h => h) (Or.inl ⟨by rfl, ?_⟩) (by assumption) ?_
    rotate_left
    · (intro w hSw; (try dsimp only at hSw); go_simp; try with_reducible rfl)
    try simp only [Act.put, List.setIfInBounds_toArray, List.set_cons_zero, List.set_cons_succ]
    refine wpAnyH_take (i := 44) (oi := ({ dst := some 122, op := Op.load 25 (Operand.tmp 121), type := 25, pos := "law.go:326", after := #[{ on := 43, ground := Ground.data }, { on := 38, ground := Ground.guard }], guard := some (38, false) } : Oper)) (v := ?_) rfl (by kernel_rfl) (by kernel_rfl) (by kernel_rfl) (fun _ _ _ h => h) (Or.inl ⟨by rfl, ?_⟩) (by assumption) ?_
    rotate_left
    · (intro w hSw; (try dsimp only at hSw); go_simp; try with_reducible rfl)
    try simp only [Act.put, List.setIfInBounds_toArray, List.set_cons_zero, List.set_cons_succ]
    refine wpAnyH_ready (rs := [40]) (by kernel_rfl) (by simp) ?_
    refine AllReadyH.cons (o := ({ dst := some 118, op := Op.call { callee := Callee.value (Operand.func 18), args := #[Operand.tmp 117], argTypes := #[34] }, type := 25, pos := "law.go:326", after := #[{ on := 39, ground := Ground.data }, { on := 38, ground := Ground.chain }, { on := 38, ground := Ground.guard }], guard := some (38, false) } : Oper)) rfl (fun K_ hK => ?_) AllReadyH.nil
    go_simp
    refine (mfrm_any w5.heap.size bp G' qs s' _ (HMB.out.on HBF.out) HWS'.out.frs HFG'.out).mono ?_
    rintro e wg ⟨v2, fw, rfl, hf1_, hf2_, hbg⟩
    have HBG := hid_of2 (HBF.out.trans (hbg.mono HBF.out.size))
    have HF1 : Hid (RdF wg v2 s'.frs) := by have := hf1_.rd; rw [hf2_] at this; exact this
    obtain ⟨a2, c2, hv2⟩ := own_any hf1_.1
    subst hv2
    clear hbg hf1_ hf2_
    refine hK.out _ _ ?_ (fun hHeld => ?_)
    · exact KEEP.out _ HBG.out
    clear hK K_
    try simp only [Act.put, List.setIfInBounds_toArray, List.set_cons_zero, List.set_cons_succ]
    have HF2 : Hid (RdF wg (.slice fa fm fc) s'.frs) := by
      obtain ⟨vl2, vt2, vo2, vs2, vf2, y1, y2⟩ := HXB.out.on HBG.out
      obtain rfl : vf2 = .slice fa fm fc := by
        have h := (box_eight y1).c7
        rw [(KEEP.out _ HBG.out).2.2.1] at h
        exact (Option.some.inj h).symm
      obtain ⟨fx, z1, z2, -, -⟩ := y2.frs
      have := z1.rd
      rw [z2] at this
      exact this
    refine wpAnyH_ready (rs := [45]) (by kernel_rfl) (by simp) ?_
    refine AllReadyH.cons (o := ({ dst := some 123, op := Op.call { callee := Callee.value (Operand.func 9), args := #[Operand.tmp 118, Operand.tmp 122], argTypes := #[25, 25] }, type := 4, pos := "law.go:326", after := #[{ on := 40, ground := Ground.data }, { on := 44, ground := Ground.data }, { on := 40, ground := Ground.chain }, { on := 38, ground := Ground.guard }], guard := some (38, false) } : Oper)) rfl (fun K_ hK => ?_) AllReadyH.nil
    go_simp
    refine (sameFs_any _ _ s'.frs wg (by have := HWS'.out.frs; omega) (frs_px HFG'.out) HF1 HF2).mono ?_
    rintro e wh ⟨rfl, hbh⟩
    have HBH := hid_of2 (HBG.out.trans (hbh.mono HBG.out.size))
    clear hbh
    refine hK.out _ _ ?_ (fun hHeld => ?_)
    · exact KEEP.out _ HBH.out
    clear hK K_
    try simp only [Act.put, List.setIfInBounds_toArray, List.set_cons_zero, List.set_cons_succ]
    refine wpAnyH_take (i := 46) (oi := ({ dst := some 124, op := Op.unOp UnOp.not 4 (Operand.tmp 123), type := 4, pos := "law.go:326", after := #[{ on := 45, ground := Ground.data }, { on := 38, ground := Ground.guard }], guard := some (38, false) } : Oper)) (v := ?_) rfl (by kernel_rfl) (by kernel_rfl) (by kernel_rfl) (fun _ _ _ h => h) (Or.inl ⟨by rfl, ?_⟩) (by assumption) ?_
    rotate_left
    · (intro w hSw; (try dsimp only at hSw); go_simp; try with_reducible rfl)
    try simp only [Act.put, List.setIfInBounds_toArray, List.set_cons_zero, List.set_cons_succ]
    refine wpAnyH_take (i := 47) (oi := ({ dst := some 125, op := Op.pick (Operand.tmp 116) (Operand.const (Value.bool true)) (Operand.tmp 124), type := 4, pos := "law.go:326", after := #[{ on := 38, ground := Ground.data }, { on := 46, ground := Ground.data }], guard := none } : Oper)) (v := ?_) rfl (by kernel_rfl) (by kernel_rfl) (by kernel_rfl) (fun _ _ _ h => h) (Or.inl ⟨by rfl, ?_⟩) (by assumption) ?_
    rotate_left
    · (intro w hSw; (try dsimp only at hSw); go_simp; try with_reducible rfl)
    try simp only [Act.put, List.setIfInBounds_toArray, List.set_cons_zero, List.set_cons_succ]
    refine wpAnyH_done (by kernel_rfl) ?_ _
    have HMF : Hid (Mac wh w5.heap.size bp G' qs s') := HMB.out.on HBH.out
    have HXF : Hid (RMac wh b2 (fun x => x = b2 ∨ x ∈ G') qs s') := HXB.out.on HBH.out
    have hbF : Below w.heap.size w wh := hbb.trans (HBH.out.mono hbb.size)
    clear KEEP hHeld HO1 HO2 HF1 HF2 d1 d3 d7 e0
    by_cases hc : c = 0
    · have hcc : ¬ (0 : Int) < (c : Int) := by omega
      go_wp2_with fail
      go_roundw
      case rel => exact ⟨k + 1, s', G', by omega, by go_num, HMF, HXF, HNB, HWS', HFG', hbF⟩
      case measure => simp [intOf]; omega
    · have hcc : (0 : Int) < (c : Int) := by omega
      go_wp2_with fail
      go_ret
      exact ⟨rfl, hbF⟩
end Go.Proofs.YtjmkfcgnadpbaaaDoor
