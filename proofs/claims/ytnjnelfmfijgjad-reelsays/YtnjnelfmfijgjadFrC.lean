/- Walks: LightFrames, SameFrames. -/
import Derived.Test.YtnjnelfmfijgjadFrB
import Derived.Test.YtnjnelfmfijgjadSameG
namespace Go.Proofs.Ytnjnelfmfijgjad
open Go.RowKit

def okFr (f : Pf) : Bool := decide (0 ≤ f.d) && (decide (f.d ≤ 99) && decide (f.ps.length ≤ 80))
def lightC (fs : List Pf) : Bool := decide (fs.length ≤ 50) && fs.all okFr

set_option maxHeartbeats 2000000 in
set_option maxRecDepth 100000 in
theorem lightF_any (v : Value) (fs : List Pf) (w : World) (HR : Hid (RdF w v fs)) (b : Bool) (HB : Hid (lightC fs = b)) :
    Calls Try.prog 6 #[v] w fun e w' => e = .returned (.bool b) ∧ Below w.heap.size w w' := by
  obtain ⟨a, cap, hv, hl, hm⟩ := HR.out.shape
  obtain ⟨n, HN⟩ : ∃ n, Hid (fs.length = n) := ⟨_, (rfl : _ = _)⟩
  rw [HN.out] at hv hl
  subst hv
  have hbz : Below w.heap.size w w := Below.refl _ _
  by_cases hn : n ≤ 50
  · go_enter Try.func6, Try.ntmps6
    go_wp2_with fail
    go_loopw [3] (fun i wr => ∃ k : Nat, k ≤ n ∧ i = .int .i64 k ∧ Below w.heap.size w wr ∧ Hid ((fs.take k).all okFr = true)) (fun i _ => n - (intOf i).toNat)
    case atStart => exact ⟨0, by omega, rfl, hbz, (rfl : _ = _)⟩
    case round =>
      obtain ⟨k, hk, rfl, hbr, HS⟩ := hrel
      by_cases hlt : k < n
      · have hlt' : k < fs.length := by rw [HN.out]; exact hlt
        obtain ⟨f, HF⟩ : ∃ f, Hid (fs.getD k pf0 = f) := ⟨_, (rfl : _ = _)⟩
        obtain ⟨g, o, ua, m, uc, rfl, hg, c0, c1, c2, c3, HU, HM⟩ := (HR.out.on hbr).at hlt HF
        obtain ⟨_, _, hu1, hu2, hu3, _⟩ := HU.out
        simp only [Value.slice.injEq] at hu1
        have hm2 : m ≤ 9223372036854775807 := by omega
        have hmem : f ∈ fs := by rw [← HF.out]; exact getD_mem hlt'
        have HNO : Hid (okFr f = false → b = false) := by
          intro h
          rw [← HB.out]
          unfold lightC
          have : fs.all okFr = false := by
            rw [← Bool.not_eq_true, List.all_eq_true]
            intro h2
            have := h2 f hmem
            rw [h] at this
            cases this
          rw [this, Bool.and_false]
        have HYES : Hid (okFr f = true → (fs.take (k + 1)).all okFr = true) := by
          intro h
          rw [take_next hlt', List.all_append, HS.out, HF.out]
          simp [h]
        clear hmem hlt' hu1 hu2 hu3
        obtain ⟨fW, fH, fp, fd⟩ := f
        simp only [okFr] at c0 c1 c2 c3 HNO HYES HM
        rw [HM.out] at HNO HYES
        by_cases h0 : fd < 0
        · have : b = false := HNO.out (by simp; omega)
          subst this
          clear HNO HYES
          go_wp2_with fail
          go_ret
          exact ⟨rfl, hbr⟩
        · by_cases h1 : 99 < fd
          · have : b = false := HNO.out (by simp; omega)
            subst this
            clear HNO HYES
            go_wp2_with fail
            go_ret
            exact ⟨rfl, hbr⟩
          · by_cases h2 : m ≤ 80
            · have HS2 : Hid ((fs.take (k + 1)).all okFr = true) := HYES.out (by simp; omega)
              clear HNO HYES
              go_wp2_with fail
              refine (light_any fW fH ua m uc wr hm2 true (by unfold Hid; simp [h2])).mono ?_
              rintro e w2 ⟨rfl, hb2⟩
              go_wp2_with fail
              go_roundw
              case rel => exact ⟨k + 1, by omega, by go_num, hbr.trans (hb2.mono hbr.size), HS2⟩
              case measure => simp [intOf]; omega
            · have : b = false := HNO.out (by simp; omega)
              subst this
              clear HNO HYES
              go_wp2_with fail
              refine (light_any fW fH ua m uc wr hm2 false (by unfold Hid; simp [h2])).mono ?_
              rintro e w2 ⟨rfl, hb2⟩
              go_wp2_with fail
              go_ret
              exact ⟨rfl, hbr.trans (hb2.mono hbr.size)⟩
      · have : b = true := by
          have h := HS.out
          rw [List.take_of_length_le (by rw [HN.out]; omega)] at h
          rw [← HB.out]
          simp only [lightC, HN.out, hn, h, decide_true, Bool.and_true]
        subst this
        go_wp2_with fail
        go_ret
        exact ⟨rfl, hbr⟩
  · have : b = false := by rw [← HB.out]; simp [lightC, HN.out, hn]
    subst this
    go_enter Try.func6, Try.ntmps6
    go_wp2_with fail
    go_ret
    exact ⟨rfl, hbz⟩

set_option maxHeartbeats 2000000 in
set_option maxRecDepth 100000 in
theorem sameFs_any (v0 v1 : Value) (fs : List Pf) (w : World) (hfs : fs.length ≤ 1000) (hpx : ∀ f ∈ fs, f.ps.length ≤ 1000) (R0 : Hid (RdF w v0 fs)) (R1 : Hid (RdF w v1 fs)) :
    Calls Try.prog 11 #[v0, v1] w fun e w' => e = .returned (.bool true) ∧ Below w.heap.size w w' := by
  obtain ⟨a0, cap0, hv0, hl0, hm0⟩ := R0.out.shape
  obtain ⟨a1, cap1, hv1, hl1, hm1⟩ := R1.out.shape
  obtain ⟨n, HN⟩ : ∃ n, Hid (fs.length = n) := ⟨_, (rfl : _ = _)⟩
  rw [HN.out] at hv0 hl0 hv1 hl1 hfs
  subst hv0 hv1
  have hbz : Below w.heap.size w w := Below.refl _ _
  have hnn : ((n : Int) != (n : Int)) = false := by simp
  go_enter Try.func11, Try.ntmps11
  go_wp2_with fail
  go_loopw [5] (fun i wr => ∃ k : Nat, k ≤ n ∧ i = .int .i64 k ∧ Below w.heap.size w wr) (fun i _ => n - (intOf i).toNat)
  case atStart => exact ⟨0, by omega, rfl, hbz⟩
  case round =>
    obtain ⟨k, hk, rfl, hbr⟩ := hrel
    by_cases hlt : k < n
    · have hlt' : k < fs.length := by rw [HN.out]; exact hlt
      obtain ⟨f, HF⟩ : ∃ f, Hid (fs.getD k pf0 = f) := ⟨_, (rfl : _ = _)⟩
      have hlp : f.ps.length ≤ 1000 := by rw [← HF.out]; exact hpx _ (getD_mem hlt')
      obtain ⟨g, o, ua, m, uc, rfl, hg, c0, c1, c2, c3, HU, HM⟩ := (R0.out.on hbr).at hlt HF
      obtain ⟨g1, o1, ua1, m1, uc1, rfl, hg1, d0, d1, d2, d3, HU1, HM1⟩ := (R1.out.on hbr).at hlt HF
      obtain ⟨fW, fH, fp, fd⟩ := f
      simp only at c0 c1 c2 c3 d0 d1 d2 d3 HU HU1 hlp
      have HUd : Hid (RdP wr.drew (.slice ua m uc) fp) := HU
      have HUd1 : Hid (RdP wr.drew (.slice ua1 m1 uc1) fp) := HU1
      have hdd : (fd != fd) = false := by simp
      have KEEP : Hid (∀ w', Below wr.drew.heap.size wr.drew w' → (w'.cell? ⟨g, o + k * 4, none⟩ = some (.int .i64 fW) ∧ w'.cell? ⟨g, o + k * 4 + 1, none⟩ = some (.int .i64 fH) ∧ w'.cell? ⟨g, o + k * 4 + 2, none⟩ = some (.slice ua m uc) ∧ w'.cell? ⟨g1, o1 + k * 4, none⟩ = some (.int .i64 fW) ∧ w'.cell? ⟨g1, o1 + k * 4 + 1, none⟩ = some (.int .i64 fH) ∧ w'.cell? ⟨g1, o1 + k * 4 + 2, none⟩ = some (.slice ua1 m1 uc1))) := by
        intro w' h
        refine ⟨?_, ?_, ?_, ?_, ?_, ?_⟩
        · rw [h.cell (p := ⟨g, o + k * 4, none⟩) hg]; exact c0
        · rw [h.cell (p := ⟨g, o + k * 4 + 1, none⟩) hg]; exact c1
        · rw [h.cell (p := ⟨g, o + k * 4 + 2, none⟩) hg]; exact c2
        · rw [h.cell (p := ⟨g1, o1 + k * 4, none⟩) hg1]; exact d0
        · rw [h.cell (p := ⟨g1, o1 + k * 4 + 1, none⟩) hg1]; exact d1
        · rw [h.cell (p := ⟨g1, o1 + k * 4 + 2, none⟩) hg1]; exact d2
      clear hlt' HU HU1
      go_wp2_with fail
      go_region_held3 (fun w' => w'.cell? ⟨g, o + k * 4, none⟩ = some (.int .i64 fW) ∧ w'.cell? ⟨g, o + k * 4 + 1, none⟩ = some (.int .i64 fH) ∧ w'.cell? ⟨g, o + k * 4 + 2, none⟩ = some (.slice ua m uc) ∧ w'.cell? ⟨g1, o1 + k * 4, none⟩ = some (.int .i64 fW) ∧ w'.cell? ⟨g1, o1 + k * 4 + 1, none⟩ = some (.int .i64 fH) ∧ w'.cell? ⟨g1, o1 + k * 4 + 2, none⟩ = some (.slice ua1 m1 uc1))
        (first | exact KEEP.out _ hbx | exact ⟨c0, c1, c2, d0, d1, d2⟩ | fail)
        (first | (go_at_call 8; refine (samePicG_any fW fH fW fH _ _ fp fp _ hlp hlp HUd HUd1 true (by unfold Hid; simp [sameC])).mono ?_; rintro e wx ⟨rfl, hbx⟩) | fail)
      have e3 : wx.cell? ⟨g, o + k * 4 + 3, none⟩ = some (.int .i64 fd) := by rw [hbx.cell (p := ⟨g, o + k * 4 + 3, none⟩) hg]; exact c3
      have e4 : wx.cell? ⟨g1, o1 + k * 4 + 3, none⟩ = some (.int .i64 fd) := by rw [hbx.cell (p := ⟨g1, o1 + k * 4 + 3, none⟩) hg1]; exact d3
      have hbx2 : Below w.heap.size w wx := hbr.drew.trans (hbx.mono hbr.size)
      clear c0 c1 c2 c3 d0 d1 d2 d3 KEEP HUd HUd1 hbx
      go_wp2_with fail
      go_quiet (fail)
      go_wp2_with fail
      go_roundw
      case rel => exact ⟨k + 1, by omega, by go_num, below_drewN hbx2 nq⟩
      case measure => simp [intOf]; omega
    · go_wp2_with fail
      go_ret
      exact ⟨rfl, hbr⟩
end Go.Proofs.Ytnjnelfmfijgjad
