/- TopTrim walked. -/
import Derived.Test.YtnjnelfmfijgjaeTrimB
import Derived.Deep.RegionHeld3
namespace Go.Proofs.Ytnjnelfmfijgjae
open Go.RowKit

theorem light_good {fs : List Pf} (h : lightC fs = true) : GoodF fs := by
  unfold lightC at h
  simp only [Bool.and_eq_true, decide_eq_true_eq, List.all_eq_true] at h
  obtain ⟨h1, h2⟩ := h
  have h3 : ∀ f ∈ fs, 0 ≤ f.d ∧ f.d ≤ 99 ∧ f.ps.length ≤ 80 := by
    intro f hf
    have := h2 f hf
    unfold okFr at this
    simp only [Bool.and_eq_true, decide_eq_true_eq] at this
    exact this
  have h4 : ∀ a : List Pf, (∀ f ∈ a, f.d ≤ 99) → lenF a ≤ 99 * a.length := by
    intro a
    induction a with
    | nil => intro _; simp [lenF]
    | cons g r ih =>
      intro hh
      have := hh g (by simp)
      have := ih (fun x hx => hh x (by simp [hx]))
      simp only [lenF, List.length_cons]
      omega
  have h5 := h4 fs (fun f hf => (h3 f hf).2.1)
  exact ⟨fun f hf => (h3 f hf).1, by omega, by omega, fun f hf => (h3 f hf).2.2⟩

theorem rdF_nil (w : World) : RdF w (.slice none 0 0) [] := ⟨none, 0, rfl, by simp, by omega, fun h => absurd rfl h⟩
theorem goodF_nil : GoodF [] := ⟨by simp, by simp [lenF], by simp, by simp⟩

theorem rdF_zero (w : World) (T : TypeId) : RdF (w.alloc (.cells #[.int .i64 0, .int .i64 0, .slice none 0 0, .int .i64 0] T)) (.slice (some ⟨w.heap.size, 0, none⟩) 1 1) [pf0] := by
  refine ⟨some ⟨w.heap.size, 0, none⟩, 1, rfl, by simp, by omega, fun _ => ⟨w.heap.size, 0, rfl, by simp, fun j hj => ?_⟩⟩
  simp at hj
  subst hj
  exact ⟨.slice none 0 0, by simp, by simp, by simp, by simp, rdP_nil _⟩
theorem goodF_zero : GoodF [pf0] := ⟨by simp, by simp [lenF], by simp, by simp⟩
theorem no_frames {w : World} {B : Nat} {v : Value} {qs : List (Pf × Value)} (h : OwnFr w B v qs) (e : qs.map Prod.fst = trimC [pf0]) : ∃ a c, v = .slice a 0 c := by
  obtain ⟨a, c, hv⟩ := own_any h.1
  have : qs.length = 0 := by rw [← List.length_map (f := Prod.fst), e]; rfl
  rw [this] at hv
  exact ⟨a, c, hv⟩

theorem wrap_small {x : Int} (h1 : 0 ≤ x) (h2 : x ≤ 1000000) : IntKind.i64.wrap x = x := by
  rw [IntKind.wrap_i64]
  omega
theorem hide_rdF {w : World} {v : Value} {fs : List Pf} (h : RdF w v fs) : Hid (RdF w v fs) := h
theorem same_f {a b : Pf} (h : ¬ a.like b) : sameC a.W a.H a.ps b.W b.H b.ps = false := by
  cases e : sameC a.W a.H a.ps b.W b.H b.ps with
  | false => rfl
  | true =>
    have h2 := same_no (show Hid _ from e) h
    cases h2
theorem same_t {a b : Pf} (h : a.like b) : sameC a.W a.H a.ps b.W b.H b.ps = true := by
  cases e : sameC a.W a.H a.ps b.W b.H b.ps with
  | true => rfl
  | false =>
    have h2 := same_yes (show Hid _ from e) h.1 h.2.1 h.2.2
    cases h2

set_option maxHeartbeats 4000000 in
set_option maxRecDepth 100000 in
theorem topTrim_any (v : Value) (fs : List Pf) (mo : Int) (w : World) (hm1 : mo ≤ 9223372036854775807) (hm2 : -9223372036854775808 ≤ mo) (HR : Hid (RdF w v fs)) :
    Calls Try.prog 4 #[v, .int .i64 mo] w fun e w' => e = .returned (.bool true) ∧ Below w.heap.size w w' := by
  obtain ⟨a, cap, hv, hl, hcap⟩ := HR.out.shape
  obtain ⟨n, HN⟩ : ∃ n, Hid (fs.length = n) := ⟨_, (rfl : _ = _)⟩
  rw [HN.out] at hv hl
  subst hv
  have hbz : Below w.heap.size w w := Below.refl _ _
  go_enter Try.func4, Try.ntmps4
  go_wp2_with fail
  refine (length_any _ [] _ (rdF_nil _) goodF_nil 0 rfl).mono ?_
  rintro e w1 ⟨rfl, hb1⟩
  go_wp2_with fail
  refine (at_any _ [] 0 _ (by omega) (rdF_nil _) goodF_nil (-1) rfl).mono ?_
  rintro e w2 ⟨rfl, hb2⟩
  have hbb2 : Below w.heap.size w w2 := hb1.trans (hb2.mono hb1.size)
  clear hb1 hb2
  go_wp2_with fail
  refine (trimG_any _ [pf0] _ (rdF_zero w2 _) goodF_zero).mono ?_
  rintro e w3 ⟨v3, qs3, rfl, ho3, hq3, hb3⟩
  have hbb3 : Below w.heap.size w w3 := (hbb2.alloc hbb2.size _).trans (hb3.mono (by simpa using Nat.le_succ_of_le hbb2.size))
  obtain ⟨a3, c3, rfl⟩ := no_frames ho3 hq3
  clear ho3 hq3 hb3 hbb2
  have HR3 : Hid (RdF w3 (.slice a n cap) fs) := HR.out.on hbb3
  obtain ⟨b, HB⟩ : ∃ b, Hid (lightC fs = b) := ⟨_, (rfl : _ = _)⟩
  go_wp2_with fail
  refine (lightF_any _ fs _ HR3 b HB).mono ?_
  rintro e w4 ⟨rfl, hb4⟩
  have hbb4 : Below w.heap.size w w4 := hbb3.trans (hb4.mono hbb3.size)
  cases b with
  | false =>
    go_wp2_with fail
    go_ret
    exact ⟨rfl, hbb4⟩
  | true =>
    have HG : Hid (GoodF fs) := light_good HB.out
    have HR4 : Hid (RdF w4 (.slice a n cap) fs) := HR.out.on hbb4
    have HP4 : Hid (w.heap.size ≤ w4.heap.size) := hbb4.size
    clear hb4 hbb3 HR3
    go_wp2_with fail
    refine (trimG_any _ fs _ HR4 HG).mono ?_
    rintro e w5 ⟨v5, qs, rfl, ho5, hq5, hb5⟩
    have hbb5 : Below w.heap.size w w5 := hbb4.trans (hb5.mono hbb4.size)
    obtain ⟨ts, HTS⟩ : ∃ ts, Hid (trimC fs = ts) := ⟨_, (rfl : _ = _)⟩
    have HT5 : Hid (RdF w5 v5 ts) := by have := ho5.rd; rw [hq5, HTS.out] at this; exact this
    have HGT : Hid (GoodF ts) := by rw [← HTS.out]; exact goodF_trim HG.out
    have HTI : Hid (TrimI ts) := by rw [← HTS.out]; exact (trim_good fs HG.out.low).1
    have HR5 : Hid (RdF w5 (.slice a n cap) fs) := HR.out.on hbb5
    clear ho5 hq5 hb5 HR4 hbb4
    obtain ⟨ta, tc, hv5, htl, htc⟩ := HT5.out.shape
    obtain ⟨tn, HTN⟩ : ∃ tn, Hid (ts.length = tn) := ⟨_, (rfl : _ = _)⟩
    rw [HTN.out] at hv5 htl
    have htn : tn ≤ 1000 := by rw [← HTN.out]; exact HGT.out.many
    subst hv5
    have hbz5 : Below w5.heap.size w5 w5 := Below.refl _ _
    go_wp2_with fail
    go_loopw [6] (fun i wr => ∃ k : Nat, k ≤ tn ∧ i = .int .i64 k ∧ Below w5.heap.size w5 wr) (fun i _ => tn - (intOf i).toNat)
    case atStart => exact ⟨0, by omega, rfl, hbz5⟩
    case round =>
      obtain ⟨k, hk, rfl, hbr⟩ := hrel
      by_cases hlt : k < tn
      · have hlt' : k < ts.length := by rw [HTN.out]; exact hlt
        obtain ⟨f, HF⟩ : ∃ f, Hid (ts.getD k pf0 = f) := ⟨_, (rfl : _ = _)⟩
        have hfd : 1 ≤ f.d := by rw [← HF.out]; exact HTI.out.low _ (getD_mem hlt')
        have hfp : f.ps.length ≤ 1000 := by rw [← HF.out]; have := HGT.out.pix _ (getD_mem hlt'); omega
        obtain ⟨g, p, ua, q, uc, rfl, hg, c0, c1, c2, c3, HU, HM⟩ := (HT5.out.on hbr).at hlt HF
        have HB0 : Hid (Below w5.heap.size w5 wr) := hbr
        cases k with
        | zero =>
          obtain ⟨fW, fH, fp, fd⟩ := f
          simp only at c0 c1 c2 c3 hfd hfp HU HM
          have hlss : decide (fd < 1) = false := by simp; omega
          clear HM HU HF HB0 hlt'
          go_wp2_with fail
          go_quiet (fail)
          go_wp2_with fail
          go_roundw
          case rel => exact ⟨1, by omega, by go_num, below_drewN hbr nq⟩
          case measure => simp [intOf]; omega
        | succ k =>
          obtain ⟨f1, HF1⟩ : ∃ f, Hid (ts.getD k pf0 = f) := ⟨_, (rfl : _ = _)⟩
          have hfp1 : f1.ps.length ≤ 1000 := by rw [← HF1.out]; have := HGT.out.pix _ (getD_mem (fs := ts) (k := k) (by omega)); omega
          obtain ⟨g', p', ua1, q1, uc1, hgp, hg', d0, d1, d2, _, HU1, HM1⟩ := (HT5.out.on hbr).at (k := k) (by omega) HF1
          simp only [Option.some.injEq, Addr.mk.injEq, and_true] at hgp
          obtain ⟨rfl, rfl⟩ := hgp
          have HNL : Hid (sameC f1.W f1.H f1.ps f.W f.H f.ps = false) := by
            unfold Hid
            have := HTI.out.adj k hlt'
            rw [HF.out, HF1.out] at this
            exact same_f this
          obtain ⟨fW, fH, fp, fd⟩ := f
          obtain ⟨lW, lH, lp, ld⟩ := f1
          simp only at c0 c1 c2 c3 d0 d1 d2 hfd hfp hfp1 HU HM HU1 HM1 HNL
          have hlss : decide (fd < 1) = false := by simp; omega
          have HUD : Hid (RdP wr.drew (.slice ua q uc) fp) := HU.out
          have HUD1 : Hid (RdP wr.drew (.slice ua1 q1 uc1) lp) := HU1.out
          have KEEP : Hid (∀ w', Below wr.drew.heap.size wr.drew w' → (w'.cell? ⟨g, p + (k + 1) * 4, none⟩ = some (.int .i64 fW) ∧ w'.cell? ⟨g, p + (k + 1) * 4 + 1, none⟩ = some (.int .i64 fH) ∧ w'.cell? ⟨g, p + (k + 1) * 4 + 2, none⟩ = some (.slice ua q uc) ∧ w'.cell? ⟨g, p + (k + 1) * 4 + 3, none⟩ = some (.int .i64 fd) ∧ w'.cell? ⟨g, p + k * 4, none⟩ = some (.int .i64 lW) ∧ w'.cell? ⟨g, p + k * 4 + 1, none⟩ = some (.int .i64 lH) ∧ w'.cell? ⟨g, p + k * 4 + 2, none⟩ = some (.slice ua1 q1 uc1))) := by
            intro w' h
            refine ⟨?_, ?_, ?_, ?_, ?_, ?_, ?_⟩
            · rw [h.cell (p := ⟨g, p + (k + 1) * 4, none⟩) hg]; exact c0
            · rw [h.cell (p := ⟨g, p + (k + 1) * 4 + 1, none⟩) hg]; exact c1
            · rw [h.cell (p := ⟨g, p + (k + 1) * 4 + 2, none⟩) hg]; exact c2
            · rw [h.cell (p := ⟨g, p + (k + 1) * 4 + 3, none⟩) hg]; exact c3
            · rw [h.cell (p := ⟨g, p + k * 4, none⟩) hg]; exact d0
            · rw [h.cell (p := ⟨g, p + k * 4 + 1, none⟩) hg]; exact d1
            · rw [h.cell (p := ⟨g, p + k * 4 + 2, none⟩) hg]; exact d2
          have hkk : (k : Int) < (tn : Int) := by omega
          have hk4 : k < tn := by omega
          have hk5 : (k : Int) + 1 < (tn : Int) := by omega
          have hk8 : (0 : Int) ≤ (k : Int) + 1 := by omega
          have hk9 : ((k : Int) + 1).toNat = k + 1 := by omega
          have hk10 : (0 : Int) ≤ (k : Int) := by omega
          have hk6 : IntKind.i64.wrap (k : Int) = (k : Int) := wrap_small (by omega) (by omega)
          have hk7 : IntKind.i64.wrap ((k : Int) + 1 - 1) = (k : Int) := by rw [show (k : Int) + 1 - 1 = k by omega]; exact hk6
          clear HM HU HF HF1 HU1 HM1 hlt' c0 c1 c2 c3 d0 d1 d2
          go_wp2_with fail
          go_region_held3 (fun w' => w'.cell? ⟨g, p + (k + 1) * 4, none⟩ = some (.int .i64 fW) ∧ w'.cell? ⟨g, p + (k + 1) * 4 + 1, none⟩ = some (.int .i64 fH) ∧ w'.cell? ⟨g, p + (k + 1) * 4 + 2, none⟩ = some (.slice ua q uc) ∧ w'.cell? ⟨g, p + (k + 1) * 4 + 3, none⟩ = some (.int .i64 fd) ∧ w'.cell? ⟨g, p + k * 4, none⟩ = some (.int .i64 lW) ∧ w'.cell? ⟨g, p + k * 4 + 1, none⟩ = some (.int .i64 lH) ∧ w'.cell? ⟨g, p + k * 4 + 2, none⟩ = some (.slice ua1 q1 uc1))
            (first | exact KEEP.out _ hbx | exact KEEP.out _ (Below.refl _ _) | fail)
            (first | (go_at_call 5; refine (same_any lW lH fW fH _ _ lp fp _ hfp1 hfp HUD1 HUD false HNL).mono ?_; rintro e wx ⟨rfl, hbx⟩) | fail)
          have hbx2 : Below w5.heap.size w5 wx := hbr.drew.trans (hbx.mono hbr.size)
          clear KEEP HUD HUD1 hbx
          go_wp2_with fail
          go_roundw
          case rel => exact ⟨k + 2, by omega, by go_num, hbx2⟩
          case measure => simp [intOf]; omega
      · have hbr5 : Below w.heap.size w wr := hbb5.trans (hbr.mono hbb5.size)
        have HRr : Hid (RdF wr (.slice a n cap) fs) := HR.out.on hbr5
        have HTr : Hid (RdF wr (.slice ta tn tc) ts) := HT5.out.on hbr
        clear hbr HT5 HR5
        have hat := trim_at HG.out mo
        rw [HTS.out] at hat
        rcases hat with ⟨hm0, hml, A, B, hA, hB, hAl, hBl, hlike⟩ | ⟨hno, hA, hB⟩
        · obtain ⟨LE, HLE⟩ : ∃ x, Hid (lenF fs = x) := ⟨_, (rfl : _ = _)⟩
          rw [HLE.out] at hml
          rw [HN.out] at hAl
          rw [HTN.out] at hBl
          go_wp2_with fail
          refine (at_any _ fs mo _ hm1 HRr HG (A : Int) hA).mono ?_
          rintro e w6 ⟨rfl, hb6⟩
          have HT6 : Hid (RdF w6 (.slice ta tn tc) ts) := HTr.out.on hb6
          go_wp2_with fail
          refine (at_any _ ts mo _ hm1 HT6 HGT (B : Int) hB).mono ?_
          rintro e w7 ⟨rfl, hb7⟩
          have hbb7 : Below w.heap.size w w7 := (hbr5.trans (hb6.mono hbr5.size)).trans (hb7.mono (Nat.le_trans hbr5.size hb6.size))
          have HT7 : Hid (RdF w7 (.slice ta tn tc) ts) := HT6.out.on hb7
          have HR7 : Hid (RdF w7 (.slice a n cap) fs) := HR.out.on hbb7
          clear HT6 hb6 hb7 HTr HRr hbr5
          obtain ⟨f, HF⟩ : ∃ f, Hid (fs.getD A pf0 = f) := ⟨_, (rfl : _ = _)⟩
          obtain ⟨f1, HF1⟩ : ∃ f, Hid (ts.getD B pf0 = f) := ⟨_, (rfl : _ = _)⟩
          have hfp : f.ps.length ≤ 1000 := by rw [← HF.out]; have := HG.out.pix _ (getD_mem (fs := fs) (k := A) (by rw [HN.out]; exact hAl)); omega
          have hfp1 : f1.ps.length ≤ 1000 := by rw [← HF1.out]; have := HGT.out.pix _ (getD_mem (fs := ts) (k := B) (by rw [HTN.out]; exact hBl)); omega
          obtain ⟨g, p, ua, q, uc, rfl, hg, c0, c1, c2, _, HU, HM⟩ := HR7.out.at hAl HF
          obtain ⟨g1, p1, ua1, q1, uc1, rfl, hg1, d0, d1, d2, _, HU1, HM1⟩ := HT7.out.at hBl HF1
          have HNL : Hid (sameC f.W f.H f.ps f1.W f1.H f1.ps = true) := by
            unfold Hid
            rw [HF.out, HF1.out] at hlike
            exact same_t hlike
          obtain ⟨fW, fH, fp, fd⟩ := f
          obtain ⟨lW, lH, lp, ld⟩ := f1
          simp only at c0 c1 c2 d0 d1 d2 hfp hfp1 HU HM HU1 HM1 HNL
          have HUD : Hid (RdP w7.drew (.slice ua q uc) fp) := HU.out
          have HUD1 : Hid (RdP w7.drew (.slice ua1 q1 uc1) lp) := HU1.out
          have KEEP : Hid (∀ w', Below w7.drew.heap.size w7.drew w' → (w'.cell? ⟨g, p + A * 4, none⟩ = some (.int .i64 fW) ∧ w'.cell? ⟨g, p + A * 4 + 1, none⟩ = some (.int .i64 fH) ∧ w'.cell? ⟨g, p + A * 4 + 2, none⟩ = some (.slice ua q uc) ∧ w'.cell? ⟨g1, p1 + B * 4, none⟩ = some (.int .i64 lW) ∧ w'.cell? ⟨g1, p1 + B * 4 + 1, none⟩ = some (.int .i64 lH) ∧ w'.cell? ⟨g1, p1 + B * 4 + 2, none⟩ = some (.slice ua1 q1 uc1))) := by
            intro w' h
            refine ⟨?_, ?_, ?_, ?_, ?_, ?_⟩
            · rw [h.cell (p := ⟨g, p + A * 4, none⟩) hg]; exact c0
            · rw [h.cell (p := ⟨g, p + A * 4 + 1, none⟩) hg]; exact c1
            · rw [h.cell (p := ⟨g, p + A * 4 + 2, none⟩) hg]; exact c2
            · rw [h.cell (p := ⟨g1, p1 + B * 4, none⟩) hg1]; exact d0
            · rw [h.cell (p := ⟨g1, p1 + B * 4 + 1, none⟩) hg1]; exact d1
            · rw [h.cell (p := ⟨g1, p1 + B * 4 + 2, none⟩) hg1]; exact d2
          clear HM HU HF HF1 HU1 HM1 c0 c1 c2 d0 d1 d2 hlike hA hB
          go_wp2_with fail
          go_region_held3 (fun w' => w'.cell? ⟨g, p + A * 4, none⟩ = some (.int .i64 fW) ∧ w'.cell? ⟨g, p + A * 4 + 1, none⟩ = some (.int .i64 fH) ∧ w'.cell? ⟨g, p + A * 4 + 2, none⟩ = some (.slice ua q uc) ∧ w'.cell? ⟨g1, p1 + B * 4, none⟩ = some (.int .i64 lW) ∧ w'.cell? ⟨g1, p1 + B * 4 + 1, none⟩ = some (.int .i64 lH) ∧ w'.cell? ⟨g1, p1 + B * 4 + 2, none⟩ = some (.slice ua1 q1 uc1))
            (first | exact KEEP.out _ hbx | exact KEEP.out _ (Below.refl _ _) | fail)
            (first | (go_at_call 5; refine (same_any fW fH lW lH _ _ fp lp _ hfp hfp1 HUD HUD1 true HNL).mono ?_; rintro e wx ⟨rfl, hbx⟩) | fail)
          have HT8 : Hid (RdF wx (.slice (some ⟨g1, p1, none⟩) tn tc) ts) := (show RdF w7.drew _ _ from HT7.out).on hbx
          have HR8 : Hid (RdF wx (.slice (some ⟨g, p, none⟩) n cap) fs) := (show RdF w7.drew _ _ from HR7.out).on hbx
          have hbb8 : Below w.heap.size w wx := hbb7.drew.trans (hbx.mono hbb7.size)
          clear KEEP HUD HUD1 hbx HT7 HR7 hbb7
          have HLT : Hid (lenF ts = LE) := by unfold Hid; rw [← HTS.out, trim_len fs HG.out.low, HLE.out]
          have HTT : Hid (trimC ts = ts) := by unfold Hid; rw [← HTS.out]; exact trim_twice HG.out
          go_wp2_with fail
          refine (length_any _ ts _ HT8 HGT LE HLT).mono ?_
          rintro e w9 ⟨rfl, hb9⟩
          have HR9 := hide_rdF (HR8.out.on hb9)
          have HT9 := hide_rdF (HT8.out.on hb9)
          have hbb9 : Below w.heap.size w w9 := hbb8.trans (hb9.mono hbb8.size)
          clear HT8 HR8 hb9 hbb8
          go_wp2_with fail
          refine (length_any _ fs _ HR9 HG LE HLE).mono ?_
          rintro e w10 ⟨rfl, hb10⟩
          have HR10 := hide_rdF (HR9.out.on hb10)
          have HT10 := hide_rdF (HT9.out.on hb10)
          have hbb10 : Below w.heap.size w w10 := hbb9.trans (hb10.mono hbb9.size)
          clear HT9 HR9 hb10 hbb9
          go_wp2_with fail
          refine (length_any _ fs _ HR10 HG LE HLE).mono ?_
          rintro e w11 ⟨rfl, hb11⟩
          have HT11 := hide_rdF (HT10.out.on hb11)
          have hbb11 : Below w.heap.size w w11 := hbb10.trans (hb11.mono hbb10.size)
          clear HT10 HR10 hb11 hbb10
          go_wp2_with fail
          refine (trimG_any _ ts _ HT11 HGT).mono ?_
          rintro e w12 ⟨v12, qs2, rfl, ho12, hq12, hb12⟩
          have HS12 : Hid (RdF w12 v12 ts) := by have := ho12.rd; rw [hq12, HTT.out] at this; exact this
          have HT12 := hide_rdF (HT11.out.on hb12)
          have hbb12 : Below w.heap.size w w12 := hbb11.trans (hb12.mono hbb11.size)
          obtain ⟨sa, sc, hv12, _, _⟩ := HS12.out.shape
          rw [HTN.out] at hv12
          subst hv12
          clear ho12 hq12 hb12 HT11 hbb11
          have htn2 : ts.length ≤ 1000 := by rw [HTN.out]; exact htn
          go_wp2_with fail
          refine (sameFs_any _ _ ts _ htn2 (fun f hf => by have := HGT.out.pix f hf; omega) HS12 HT12).mono ?_
          rintro e w13 ⟨rfl, hb13⟩
          go_wp2_with fail
          go_ret
          exact ⟨rfl, hbb12.trans (hb13.mono hbb12.size)⟩
        · obtain ⟨LE, HLE⟩ : ∃ x, Hid (lenF fs = x) := ⟨_, (rfl : _ = _)⟩
          rw [HLE.out] at hno
          go_wp2_with fail
          refine (at_any _ fs mo _ hm1 HRr HG (-1) hA).mono ?_
          rintro e w6 ⟨rfl, hb6⟩
          have HT6 : Hid (RdF w6 (.slice ta tn tc) ts) := HTr.out.on hb6
          go_wp2_with fail
          refine (at_any _ ts mo _ hm1 HT6 HGT (-1) hB).mono ?_
          rintro e w7 ⟨rfl, hb7⟩
          have hbb7 : Below w.heap.size w w7 := (hbr5.trans (hb6.mono hbr5.size)).trans (hb7.mono (Nat.le_trans hbr5.size hb6.size))
          have HT7 : Hid (RdF w7 (.slice ta tn tc) ts) := HT6.out.on hb7
          have HR7 : Hid (RdF w7 (.slice a n cap) fs) := HR.out.on hbb7
          clear HT6 hb6 hb7 HTr HRr hbr5 hA hB
          go_wp2_with fail
          go_quiet (fail)
          have HT8 : Hid (RdF (w7.drewN nq) (.slice ta tn tc) ts) := HT7.out
          have HR8 : Hid (RdF (w7.drewN nq) (.slice a n cap) fs) := HR7.out
          have hbb8 : Below w.heap.size w (w7.drewN nq) := below_drewN hbb7 nq
          clear HT7 HR7 hbb7
          generalize w7.drewN nq = wx at *
          by_cases hm0 : mo < 0
          · have hgeq : decide (0 ≤ mo) = false := by simp; omega
            have HLT : Hid (lenF ts = LE) := by unfold Hid; rw [← HTS.out, trim_len fs HG.out.low, HLE.out]
            have HTT : Hid (trimC ts = ts) := by unfold Hid; rw [← HTS.out]; exact trim_twice HG.out
            go_wp2_with fail
            refine (length_any _ ts _ HT8 HGT LE HLT).mono ?_
            rintro e w9 ⟨rfl, hb9⟩
            have HR9 := hide_rdF (HR8.out.on hb9)
            have HT9 := hide_rdF (HT8.out.on hb9)
            have hbb9 : Below w.heap.size w w9 := hbb8.trans (hb9.mono hbb8.size)
            clear HT8 HR8 hb9 hbb8
            go_wp2_with fail
            refine (length_any _ fs _ HR9 HG LE HLE).mono ?_
            rintro e w10 ⟨rfl, hb10⟩
            have HR10 := hide_rdF (HR9.out.on hb10)
            have HT10 := hide_rdF (HT9.out.on hb10)
            have hbb10 : Below w.heap.size w w10 := hbb9.trans (hb10.mono hbb9.size)
            clear HT9 HR9 hb10 hbb9
            have HT11 := HT10
            have hbb11 := hbb10
            clear HT10 HR10 hbb10
            go_wp2_with fail
            refine (trimG_any _ ts _ HT11 HGT).mono ?_
            rintro e w12 ⟨v12, qs2, rfl, ho12, hq12, hb12⟩
            have HS12 : Hid (RdF w12 v12 ts) := by have := ho12.rd; rw [hq12, HTT.out] at this; exact this
            have HT12 := hide_rdF (HT11.out.on hb12)
            have hbb12 : Below w.heap.size w w12 := hbb11.trans (hb12.mono hbb11.size)
            obtain ⟨sa, sc, hv12, _, _⟩ := HS12.out.shape
            rw [HTN.out] at hv12
            subst hv12
            clear ho12 hq12 hb12 HT11 hbb11
            have htn2 : ts.length ≤ 1000 := by rw [HTN.out]; exact htn
            go_wp2_with fail
            refine (sameFs_any _ _ ts _ htn2 (fun f hf => by have := HGT.out.pix f hf; omega) HS12 HT12).mono ?_
            rintro e w13 ⟨rfl, hb13⟩
            go_wp2_with fail
            go_ret
            exact ⟨rfl, hbb12.trans (hb13.mono hbb12.size)⟩
          · have hgeq : decide (0 ≤ mo) = true := by simp; omega
            have hml : ¬ mo < LE := by omega
            have hml2 : decide (mo < LE) = false := by simp; omega
            have HLT : Hid (lenF ts = LE) := by unfold Hid; rw [← HTS.out, trim_len fs HG.out.low, HLE.out]
            have HTT : Hid (trimC ts = ts) := by unfold Hid; rw [← HTS.out]; exact trim_twice HG.out
            go_wp2_with fail
            refine (length_any _ ts _ HT8 HGT LE HLT).mono ?_
            rintro e w9 ⟨rfl, hb9⟩
            have HR9 := hide_rdF (HR8.out.on hb9)
            have HT9 := hide_rdF (HT8.out.on hb9)
            have hbb9 : Below w.heap.size w w9 := hbb8.trans (hb9.mono hbb8.size)
            clear HT8 HR8 hb9 hbb8
            go_wp2_with fail
            refine (length_any _ fs _ HR9 HG LE HLE).mono ?_
            rintro e w10 ⟨rfl, hb10⟩
            have HR10 := hide_rdF (HR9.out.on hb10)
            have HT10 := hide_rdF (HT9.out.on hb10)
            have hbb10 : Below w.heap.size w w10 := hbb9.trans (hb10.mono hbb9.size)
            clear HT9 HR9 hb10 hbb9
            go_wp2_with fail
            refine (length_any _ fs _ HR10 HG LE HLE).mono ?_
            rintro e w11 ⟨rfl, hb11⟩
            have HT11 := hide_rdF (HT10.out.on hb11)
            have hbb11 : Below w.heap.size w w11 := hbb10.trans (hb11.mono hbb10.size)
            clear HT10 HR10 hb11 hbb10
            go_wp2_with fail
            refine (trimG_any _ ts _ HT11 HGT).mono ?_
            rintro e w12 ⟨v12, qs2, rfl, ho12, hq12, hb12⟩
            have HS12 : Hid (RdF w12 v12 ts) := by have := ho12.rd; rw [hq12, HTT.out] at this; exact this
            have HT12 := hide_rdF (HT11.out.on hb12)
            have hbb12 : Below w.heap.size w w12 := hbb11.trans (hb12.mono hbb11.size)
            obtain ⟨sa, sc, hv12, _, _⟩ := HS12.out.shape
            rw [HTN.out] at hv12
            subst hv12
            clear ho12 hq12 hb12 HT11 hbb11
            have htn2 : ts.length ≤ 1000 := by rw [HTN.out]; exact htn
            go_wp2_with fail
            refine (sameFs_any _ _ ts _ htn2 (fun f hf => by have := HGT.out.pix f hf; omega) HS12 HT12).mono ?_
            rintro e w13 ⟨rfl, hb13⟩
            go_wp2_with fail
            go_ret
            exact ⟨rfl, hbb12.trans (hb13.mono hbb12.size)⟩

theorem topTrim_all (v : Value) (fs : List Pf) (mo : Int) (w : World) (R : RdF w v fs) (h1 : -9223372036854775808 ≤ mo) (h2 : mo ≤ 9223372036854775807) :
    Calls Try.prog 4 #[v, .int .i64 mo] w fun e w' => e = .returned (.bool true) ∧ Below w.heap.size w w' := topTrim_any v fs mo w h2 h1 R
end Go.Proofs.Ytnjnelfmfijgjae
