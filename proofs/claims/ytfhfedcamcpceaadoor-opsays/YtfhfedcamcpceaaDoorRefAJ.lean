/- Walks of the reference's picture: PictureFault, byteAt, guess. -/
import Derived.Test.YtfhfedcamcpceaaDoorM5
namespace Go.Proofs.YtfhfedcamcpceaaDoor
open Go.RowKit

set_option maxRecDepth 100000 in
theorem side_false1 {n : Int} (h : n < 1) : sideB n = false := by unfold sideB; simp; omega
set_option maxRecDepth 100000 in
theorem side_false8 {n : Int} (h : 8 < n) : sideB n = false := by unfold sideB; simp; omega
set_option maxRecDepth 100000 in
theorem side_true {n : Int} (h1 : ¬ n < 1) (h2 : ¬ 8 < n) : sideB n = true := by unfold sideB; simp; omega

set_option maxHeartbeats 2000000 in
set_option maxRecDepth 100000 in
theorem fault_any (W H : Int) (v : Value) (ps : List (Int × Int)) (w : World) (hps : ps.length ≤ 1000000000) (HR : Hid (RdP w v ps)) (c : Nat) (HC : Hid (checkL W H ps = c)) :
    Calls Tryd.prog 39 #[.agg #[.int .i64 W, .int .i64 H, v]] w fun e w' => e = .returned (.int .i64 (c : Int)) ∧ Below w.heap.size w w' := by
  by_cases h1 : W < 1
  · have hc : c = 1 := by rw [← HC.out]; unfold checkL; rw [if_pos (.inl (side_false1 h1))]
    subst hc
    go_enter Tryd.func39, Tryd.ntmps39
    go_wp2_with fail
    go_ret
    exact ⟨rfl, (Below.refl _ _).alloc (Nat.le_refl _) _⟩
  by_cases h2 : 8 < W
  · have hc : c = 1 := by rw [← HC.out]; unfold checkL; rw [if_pos (.inl (side_false8 h2))]
    subst hc
    go_enter Tryd.func39, Tryd.ntmps39
    go_wp2_with fail
    go_ret
    exact ⟨rfl, (Below.refl _ _).alloc (Nat.le_refl _) _⟩
  by_cases h3 : H < 1
  · have hc : c = 1 := by rw [← HC.out]; unfold checkL; rw [if_pos (.inr (side_false1 h3))]
    subst hc
    go_enter Tryd.func39, Tryd.ntmps39
    go_wp2_with fail
    go_ret
    exact ⟨rfl, (Below.refl _ _).alloc (Nat.le_refl _) _⟩
  by_cases h4 : 8 < H
  · have hc : c = 1 := by rw [← HC.out]; unfold checkL; rw [if_pos (.inr (side_false8 h4))]
    subst hc
    go_enter Tryd.func39, Tryd.ntmps39
    go_wp2_with fail
    go_ret
    exact ⟨rfl, (Below.refl _ _).alloc (Nat.le_refl _) _⟩
  have hw := side_true h1 h2
  have hh := side_true h3 h4
  have hW1 : 1 ≤ W := by omega
  have hW8 : W ≤ 8 := by omega
  have hH1 : 1 ≤ H := by omega
  have hH8 : H ≤ 8 := by omega
  have HC2 : Hid ((if (ps.length : Int) ≠ W * H then 3 else if ps.all okPix then 0 else 1) = c) := by
    unfold Hid; rw [← HC.out]; unfold checkL; simp only [hw, hh]; simp
  clear hw hh h1 h2 h3 h4
  obtain ⟨M, HM⟩ : ∃ M : Nat, Hid (W * H = (M : Int)) := ⟨(W * H).toNat, by unfold Hid; have := Int.mul_nonneg (show 0 ≤ W by omega) (show 0 ≤ H by omega); omega⟩
  have hm64 : M ≤ 64 := by
    have h1 : W * H ≤ 8 * 8 := Int.mul_le_mul hW8 hH8 (by omega) (by omega)
    have := HM.out; omega
  have hm1 : 1 ≤ M := by
    have h1 : 1 * 1 ≤ W * H := Int.mul_le_mul hW1 hH1 (by omega) (by omega)
    have := HM.out; omega
  have hmul : W * H = (M : Int) := HM.out
  obtain ⟨a, cap, rfl, hcap, hcap2, HCL⟩ := HR.out
  have HCL' : Hid (ps ≠ [] → ∃ g off, a = some ⟨g, off, none⟩ ∧ g < w.heap.size ∧ ∀ j, j < ps.length → w.cell? ⟨g, off + j * 2, none⟩ = some (.int .i64 (ps.getD j (0, 0)).1) ∧ w.cell? ⟨g, off + j * 2 + 1, none⟩ = some (.int .i64 (ps.getD j (0, 0)).2)) := HCL
  clear HCL HR
  by_cases hne : ps.length = M
  · have hneb : ((ps.length : Int) != (M : Int)) = false := by rw [bne_eq_false_iff_eq]; omega
    have HC3 : Hid ((if ps.all okPix then 0 else 1) = c) := by
      unfold Hid; rw [← HC2.out, if_neg (show ¬ (ps.length : Int) ≠ W * H by rw [HM.out]; omega)]
    have hpne : ps ≠ [] := by intro e; rw [e] at hne; simp at hne; omega
    obtain ⟨g, off, rfl, hg, hcell⟩ := HCL'.out hpne
    have HCE : Hid (∀ j, j < ps.length → w.cell? ⟨g, off + j * 2, none⟩ = some (.int .i64 (ps.getD j (0, 0)).1) ∧ w.cell? ⟨g, off + j * 2 + 1, none⟩ = some (.int .i64 (ps.getD j (0, 0)).2)) := hcell
    have HNE : Hid (ps.length = M) := hne
    clear hcell HCL' hpne
    rw [hne] at hcap hps hneb ⊢
    clear hne
    have HT := three_start w (.int .i64 W) (.int .i64 H) (.slice (some ⟨g, off, none⟩) M cap) 24
    go_enter Tryd.func39, Tryd.ntmps39
    go_wp2_with fail
    go_loopw [3] (fun i wr => ∃ k : Nat, k ≤ M ∧ i = .int .i64 k ∧ Below w.heap.size w wr ∧ Hid (Three wr w.heap.size (.int .i64 W) (.int .i64 H) (.slice (some ⟨g, off, none⟩) M cap)) ∧ Hid (ps.all okPix = (ps.drop k).all okPix)) (fun i _ => M - (intOf i).toNat)
    case atStart => exact ⟨0, by omega, rfl, (Below.refl _ _).alloc (Nat.le_refl _) _, HT, (rfl : _ = _)⟩
    case round =>
      obtain ⟨k, hk, rfl, hb, HTR, HK⟩ := hrel
      obtain ⟨t0, t1, t2, f0, f1, f2, tl⟩ := HTR.out
      by_cases hlt : k < M
      · have hc := HCE.out k (by rw [HNE.out]; exact hlt)
        obtain ⟨p, HP⟩ : ∃ p, Hid (ps.getD k (0, 0) = p) := ⟨_, (rfl : _ = _)⟩
        rw [HP.out] at hc
        obtain ⟨pv, pa⟩ := p
        obtain ⟨hc0, hc1⟩ := hc
        have hd0 : wr.cell? ⟨g, off + k * 2, none⟩ = some (.int .i64 pv) := by rw [hb.cell (p := ⟨g, off + k * 2, none⟩) hg, hc0]
        have hd1 : wr.cell? ⟨g, off + k * 2 + 1, none⟩ = some (.int .i64 pa) := by rw [hb.cell (p := ⟨g, off + k * 2 + 1, none⟩) hg, hc1]
        clear hc0 hc1
        have HS : Hid ((ps.drop k).all okPix = (shadeB pv && shadeB pa && (ps.drop (k + 1)).all okPix)) := by
          unfold Hid; rw [drop_pix ps k (by rw [HNE.out]; exact hlt), HP.out, List.all_cons]; rfl
        have HBAD : Hid (shadeB pv = false ∨ shadeB pa = false → c = 1) := by
          unfold Hid
          intro h
          rw [← HC3.out, HK.out, HS.out]
          rcases h with h | h <;> rw [h] <;> simp
        by_cases g1 : pv < 0
        · have hc : c = 1 := HBAD.out (.inl (by unfold shadeB; simp; omega))
          subst hc
          go_wp2_with fail
          go_ret
          exact ⟨rfl, hb.alloc hb.size _⟩
        by_cases g2 : 255 < pv
        · have hc : c = 1 := HBAD.out (.inl (by unfold shadeB; simp; omega))
          subst hc
          go_wp2_with fail
          go_ret
          exact ⟨rfl, hb.alloc hb.size _⟩
        by_cases g3 : pa < 0
        · have hc : c = 1 := HBAD.out (.inr (by unfold shadeB; simp; omega))
          subst hc
          go_wp2_with fail
          go_ret
          exact ⟨rfl, hb.alloc hb.size _⟩
        by_cases g4 : 255 < pa
        · have hc : c = 1 := HBAD.out (.inr (by unfold shadeB; simp; omega))
          subst hc
          go_wp2_with fail
          go_ret
          exact ⟨rfl, hb.alloc hb.size _⟩
        have HN : Hid (ps.all okPix = (ps.drop (k + 1)).all okPix) := by
          unfold Hid
          rw [HK.out, HS.out, show shadeB pv = true by unfold shadeB; simp; omega, show shadeB pa = true by unfold shadeB; simp; omega]; simp
        have HT2 := HTR.out.alloc (.cells #[.int .i64 pv, .int .i64 pa] 88)
        go_wp2_with fail
        go_roundw
        case rel => exact ⟨k + 1, by omega, by go_num, hb.alloc hb.size _, HT2, HN⟩
        case measure => simp [intOf]; omega
      · have hc : c = 0 := by
          rw [← HC3.out, HK.out, List.drop_eq_nil_of_le (by rw [HNE.out]; omega)]; simp
        subst hc
        go_wp2_with fail
        go_ret
        exact ⟨rfl, hb⟩
  · have hneb : ((ps.length : Int) != (M : Int)) = true := by rw [bne_iff_ne]; omega
    have hc : c = 3 := by rw [← HC2.out, if_pos (show (ps.length : Int) ≠ W * H by rw [HM.out]; omega)]
    subst hc
    go_enter Tryd.func39, Tryd.ntmps39
    go_wp2_with fail
    go_ret
    exact ⟨rfl, (Below.refl _ _).alloc (Nat.le_refl _) _⟩
end Go.Proofs.YtfhfedcamcpceaaDoor
