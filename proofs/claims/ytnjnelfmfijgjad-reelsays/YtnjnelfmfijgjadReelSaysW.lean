/- ReelSays walked. -/
import Derived.Test.YtnjnelfmfijgjadTrimR
namespace Go.Proofs.Ytnjnelfmfijgjad
open Go.RowKit

theorem light_good2 {fs : List Pf} (h : lightC fs = true) : GoodF fs := by
  unfold lightC at h
  simp only [Bool.and_eq_true, decide_eq_true_eq, List.all_eq_true] at h
  obtain ⟨h1, h2⟩ := h
  have h3 : ∀ f ∈ fs, 0 ≤ f.d ∧ f.d ≤ 99 ∧ f.ps.length ≤ 80 := by
    intro f hf
    have := h2 f hf
    unfold okFr at this
    simp only [Bool.and_eq_true, decide_eq_true_eq] at this
    exact this
  have h4 : ∀ a : List Pf, (∀ f ∈ a, f.d ≤ 99) → lenF a ≤ 99 * a.length := by
    intro a
    induction a with
    | nil => intro _; simp [lenF]
    | cons g r ih =>
      intro hh
      have := hh g (by simp)
      have := ih (fun x hx => hh x (by simp [hx]))
      simp only [lenF, List.length_cons]
      omega
  have h5 := h4 fs (fun f hf => (h3 f hf).2.1)
  exact ⟨fun f hf => (h3 f hf).1, by omega, by omega, fun f hf => (h3 f hf).2.2⟩

@[reducible] def two23 : List Pf := [⟨0, 0, [], 2⟩, ⟨0, 0, [], 3⟩]
theorem rdF_two (w : World) (T : TypeId) : RdF (w.alloc (.cells #[.int .i64 0, .int .i64 0, .slice none 0 0, .int .i64 2, .int .i64 0, .int .i64 0, .slice none 0 0, .int .i64 3] T)) (.slice (some ⟨w.heap.size, 0, none⟩) 2 2) two23 := by
  refine ⟨some ⟨w.heap.size, 0, none⟩, 2, rfl, by simp, by omega, fun _ => ⟨w.heap.size, 0, rfl, by simp, fun j hj => ?_⟩⟩
  simp at hj
  match j, hj with
  | 0, _ => exact ⟨.slice none 0 0, by simp, by simp, by simp, by simp, rdP_nil _⟩
  | 1, _ => exact ⟨.slice none 0 0, by simp, by simp, by simp, by simp, rdP_nil _⟩
theorem goodF_two : GoodF two23 := ⟨by simp, by simp [lenF], by simp, by simp⟩
theorem hide_rdF2 {w : World} {v : Value} {fs : List Pf} (h : RdF w v fs) : Hid (RdF w v fs) := h
theorem wrap_small2 {x : Int} (h1 : 0 ≤ x) (h2 : x ≤ 1000000) : IntKind.i64.wrap x = x := by
  rw [IntKind.wrap_i64]
  omega

set_option maxHeartbeats 4000000 in
set_option maxRecDepth 100000 in
theorem reelSays_any (v : Value) (fs : List Pf) (mo : Int) (w : World) (hm1 : mo ≤ 9223372036854775807) (hm2 : -9223372036854775808 ≤ mo) (HR : Hid (RdF w v fs)) :
    Calls Try.prog 3 #[v, .int .i64 mo] w fun e w' => e = .returned (.bool true) ∧ Below w.heap.size w w' := by
  obtain ⟨a, cap, hv, hl, hcap⟩ := HR.out.shape
  obtain ⟨n, HN⟩ : ∃ n, Hid (fs.length = n) := ⟨_, (rfl : _ = _)⟩
  rw [HN.out] at hv hl
  subst hv
  have hbz : Below w.heap.size w w := Below.refl _ _
  go_enter Try.func3, Try.ntmps3
  go_wp2_with fail
  refine (length_any _ two23 _ (rdF_two w _) goodF_two 5 rfl).mono ?_
  rintro e w1 ⟨rfl, hb1⟩
  have hbb1 : Below w.heap.size w w1 := (hbz.alloc hbz.size _).trans (hb1.mono (by simp))
  clear hb1 hbz
  go_wp2_with fail
  refine (at_any _ two23 2 _ (by omega) (rdF_two w1 _) goodF_two 1 rfl).mono ?_
  rintro e w2 ⟨rfl, hb2⟩
  have hbb3 : Below w.heap.size w w2 := (hbb1.alloc hbb1.size _).trans (hb2.mono (by have := hbb1.size; simp; omega))
  clear hb2 hbb1
  have HR3 : Hid (RdF w2 (.slice a n cap) fs) := HR.out.on hbb3
  obtain ⟨b, HB⟩ : ∃ b, Hid (lightC fs = b) := ⟨_, (rfl : _ = _)⟩
  go_wp2_with fail
  refine (lightF_any _ fs _ HR3 b HB).mono ?_
  rintro e w4 ⟨rfl, hb4⟩
  have hbb4 : Below w.heap.size w w4 := hbb3.trans (hb4.mono hbb3.size)
  cases b with
  | false =>
    go_wp2_with fail
    go_ret
    exact ⟨rfl, hbb4⟩
  | true =>
    have HG : Hid (GoodF fs) := light_good2 HB.out
    have hn : n ≤ 1000 := by rw [← HN.out]; exact HG.out.many
    clear hb4 hbb3 HR3
    go_wp2_with fail
    go_loopw [5] (fun i wr => ∃ k : Nat, i = .int .i64 ((k : Int) + 1) ∧ (k = 0 ∨ k < n) ∧ Below w.heap.size w wr) (fun i _ => n - (intOf i).toNat)
    case atStart => exact ⟨0, rfl, .inl rfl, hbb4⟩
    case round =>
      obtain ⟨k, rfl, hk, hbr⟩ := hrel
      by_cases hlt : k + 1 < n
      · obtain ⟨f, HF⟩ : ∃ f, Hid (fs.getD (k + 1) pf0 = f) := ⟨_, (rfl : _ = _)⟩
        obtain ⟨f1, HF1⟩ : ∃ f, Hid (fs.getD k pf0 = f) := ⟨_, (rfl : _ = _)⟩
        have hfp : f.ps.length ≤ 1000 := by rw [← HF.out]; have := HG.out.pix _ (getD_mem (fs := fs) (k := k + 1) (by rw [HN.out]; exact hlt)); omega
        have hfp1 : f1.ps.length ≤ 1000 := by rw [← HF1.out]; have := HG.out.pix _ (getD_mem (fs := fs) (k := k) (by rw [HN.out]; omega)); omega
        obtain ⟨g, p, ua, q, uc, rfl, hg, c0, c1, c2, _, HU, HM⟩ := (HR.out.on hbr).at hlt HF
        obtain ⟨g', p', ua1, q1, uc1, hgp, hg', d0, d1, d2, _, HU1, HM1⟩ := (HR.out.on hbr).at (k := k) (by omega) HF1
        simp only [Option.some.injEq, Addr.mk.injEq, and_true] at hgp
        obtain ⟨rfl, rfl⟩ := hgp
        obtain ⟨fW, fH, fp, fd⟩ := f
        obtain ⟨lW, lH, lp, ld⟩ := f1
        simp only at c0 c1 c2 d0 d1 d2 hfp hfp1 HU HM HU1 HM1
        obtain ⟨b, HB2⟩ : ∃ b, Hid (sameC lW lH lp fW fH fp = b) := ⟨_, (rfl : _ = _)⟩
        have hbb : (b != b) = false := by simp
        have HUD : Hid (∀ w', Below wr.drew.heap.size wr.drew w' → RdP w' (.slice ua q uc) fp) := fun w' h => (show RdP wr.drew _ _ from HU.out).on h
        have HUD1 : Hid (∀ w', Below wr.drew.heap.size wr.drew w' → RdP w' (.slice ua1 q1 uc1) lp) := fun w' h => (show RdP wr.drew _ _ from HU1.out).on h
        have KEEP : Hid (∀ w', Below wr.drew.heap.size wr.drew w' → (w'.cell? ⟨g, p + (k + 1) * 4, none⟩ = some (.int .i64 fW) ∧ w'.cell? ⟨g, p + (k + 1) * 4 + 1, none⟩ = some (.int .i64 fH) ∧ w'.cell? ⟨g, p + (k + 1) * 4 + 2, none⟩ = some (.slice ua q uc) ∧ w'.cell? ⟨g, p + k * 4, none⟩ = some (.int .i64 lW) ∧ w'.cell? ⟨g, p + k * 4 + 1, none⟩ = some (.int .i64 lH) ∧ w'.cell? ⟨g, p + k * 4 + 2, none⟩ = some (.slice ua1 q1 uc1))) := by
          intro w' h
          refine ⟨?_, ?_, ?_, ?_, ?_, ?_⟩
          · rw [h.cell (p := ⟨g, p + (k + 1) * 4, none⟩) hg]; exact c0
          · rw [h.cell (p := ⟨g, p + (k + 1) * 4 + 1, none⟩) hg]; exact c1
          · rw [h.cell (p := ⟨g, p + (k + 1) * 4 + 2, none⟩) hg]; exact c2
          · rw [h.cell (p := ⟨g, p + k * 4, none⟩) hg]; exact d0
          · rw [h.cell (p := ⟨g, p + k * 4 + 1, none⟩) hg]; exact d1
          · rw [h.cell (p := ⟨g, p + k * 4 + 2, none⟩) hg]; exact d2
        have hkk : (k : Int) < (n : Int) := by omega
        have hk5 : (k : Int) + 1 < (n : Int) := by omega
        have hk8 : (0 : Int) ≤ (k : Int) + 1 := by omega
        have hk9 : ((k : Int) + 1).toNat = k + 1 := by omega
        have hk10 : (0 : Int) ≤ (k : Int) := by omega
        have hk6 : IntKind.i64.wrap (k : Int) = (k : Int) := wrap_small2 (by omega) (by omega)
        have hk7 : IntKind.i64.wrap ((k : Int) + 1 - 1) = (k : Int) := by rw [show (k : Int) + 1 - 1 = k by omega]; exact hk6
        clear HM HU HF HF1 HU1 HM1 c0 c1 c2 d0 d1 d2
        go_wp2_with fail
        go_region_held3 (fun w' => w'.cell? ⟨g, p + (k + 1) * 4, none⟩ = some (.int .i64 fW) ∧ w'.cell? ⟨g, p + (k + 1) * 4 + 1, none⟩ = some (.int .i64 fH) ∧ w'.cell? ⟨g, p + (k + 1) * 4 + 2, none⟩ = some (.slice ua q uc) ∧ w'.cell? ⟨g, p + k * 4, none⟩ = some (.int .i64 lW) ∧ w'.cell? ⟨g, p + k * 4 + 1, none⟩ = some (.int .i64 lH) ∧ w'.cell? ⟨g, p + k * 4 + 2, none⟩ = some (.slice ua1 q1 uc1))
          (first | exact KEEP.out _ (hbx.trans (hby.mono hbx.size)) | exact KEEP.out _ hbx | exact KEEP.out _ (Below.refl _ _) | fail)
          (first | (go_at_call 7; refine (same_any lW lH fW fH _ _ lp fp _ hfp1 hfp (HUD1.out _ (Below.refl _ _)) (HUD.out _ (Below.refl _ _)) b HB2).mono ?_; rintro e wx ⟨rfl, hbx⟩) | (go_at_call 8; refine (samePicG_any lW lH fW fH _ _ lp fp _ hfp1 hfp (HUD1.out _ hbx) (HUD.out _ hbx) b HB2).mono ?_; rintro e wy ⟨rfl, hby⟩) | fail)
        have hbx2 : Below w.heap.size w wy := hbr.drew.trans ((hbx.trans (hby.mono hbx.size)).mono hbr.size)
        clear KEEP HUD HUD1 hbx hby
        go_wp2_with fail
        go_roundw
        case rel => exact ⟨k + 1, by go_num, .inr (by omega), hbx2⟩
        case measure => simp [intOf]; omega
      · have HRr : Hid (RdF wr (.slice a n cap) fs) := HR.out.on hbr
        have hlt2 : ¬ (k : Int) + 1 < (n : Int) := by omega
        obtain ⟨LE, HLE⟩ : ∃ x, Hid (lenF fs = x) := ⟨_, (rfl : _ = _)⟩
        obtain ⟨AT, HAT⟩ : ∃ x, Hid (atC fs mo = x) := ⟨_, (rfl : _ = _)⟩
        go_wp2_with fail
        refine (length_any _ fs _ HRr HG LE HLE).mono ?_
        rintro e w5 ⟨rfl, hb5⟩
        have HR5 := hide_rdF2 (HRr.out.on hb5)
        have hbb5 : Below w.heap.size w w5 := hbr.trans (hb5.mono hbr.size)
        clear HRr hb5
        go_wp2_with fail
        refine (refLength_any _ fs _ HR5 HG LE HLE).mono ?_
        rintro e w6 ⟨rfl, hb6⟩
        have HR6 := hide_rdF2 (HR5.out.on hb6)
        have hbb6 : Below w.heap.size w w6 := hbb5.trans (hb6.mono hbb5.size)
        clear HR5 hb6 hbb5
        go_wp2_with fail
        refine (at_any _ fs mo _ hm1 HR6 HG AT HAT).mono ?_
        rintro e w7 ⟨rfl, hb7⟩
        have HR7 := hide_rdF2 (HR6.out.on hb7)
        have hbb7 : Below w.heap.size w w7 := hbb6.trans (hb7.mono hbb6.size)
        clear HR6 hb7 hbb6
        go_wp2_with fail
        refine (refAt_any _ fs mo _ hm1 hm2 HR7 HG AT HAT).mono ?_
        rintro e w8 ⟨rfl, hb8⟩
        have HR8 := hide_rdF2 (HR7.out.on hb8)
        have hbb8 : Below w.heap.size w w8 := hbb7.trans (hb8.mono hbb7.size)
        clear HR7 hb8 hbb7
        go_wp2_with fail
        refine (trimG_any _ fs _ HR8 HG).mono ?_
        rintro e w9 ⟨v9, qs, rfl, ho9, hq9, hb9⟩
        obtain ⟨ts, HTS⟩ : ∃ ts, Hid (trimC fs = ts) := ⟨_, (rfl : _ = _)⟩
        have HT9 : Hid (RdF w9 v9 ts) := by have := ho9.rd; rw [hq9, HTS.out] at this; exact this
        have HR9 := hide_rdF2 (HR8.out.on hb9)
        have hbb9 : Below w.heap.size w w9 := hbb8.trans (hb9.mono hbb8.size)
        have HGT : Hid (GoodF ts) := by rw [← HTS.out]; exact goodF_trim HG.out
        clear HR8 hb9 hbb8 ho9 hq9
        obtain ⟨ta, tc, hv9, _, _⟩ := HT9.out.shape
        subst hv9
        go_wp2_with fail
        refine (trimR_any _ fs _ HR9 HG).mono ?_
        rintro e w10 ⟨v10, rfl, hr10, hb10⟩
        rw [HTS.out] at hr10
        have HT10 := hide_rdF2 (HT9.out.on hb10)
        have HS10 := hide_rdF2 hr10
        have hbb10 : Below w.heap.size w w10 := hbb9.trans (hb10.mono hbb9.size)
        clear HT9 HR9 hb10 hbb9 hr10
        obtain ⟨sa, sc, hv10, _, _⟩ := HS10.out.shape
        subst hv10
        go_wp2_with fail
        refine (sameFs_any _ _ ts _ HGT.out.many (fun f hf => by have := HGT.out.pix f hf; omega) HT10 HS10).mono ?_
        rintro e w13 ⟨rfl, hb13⟩
        go_wp2_with fail
        go_ret
        exact ⟨rfl, hbb10.trans (hb13.mono hbb10.size)⟩

theorem reelSays_all (v : Value) (fs : List Pf) (mo : Int) (w : World) (R : RdF w v fs) (h1 : -9223372036854775808 ≤ mo) (h2 : mo ≤ 9223372036854775807) :
    Calls Try.prog 3 #[v, .int .i64 mo] w fun e w' => e = .returned (.bool true) ∧ Below w.heap.size w w' := reelSays_any v fs mo w h2 h1 R
end Go.Proofs.Ytnjnelfmfijgjad
