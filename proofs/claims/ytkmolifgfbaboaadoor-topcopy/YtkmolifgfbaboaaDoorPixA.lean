/- Walks of picture's isSide, isShade and Check. -/
import Derived.Test.YtkmolifgfbaboaaDoorBase
import Derived.Deep.Cut
import Derived.Deep.RegionWith
namespace Go.Proofs.YtkmolifgfbaboaaDoor
open Go.RowKit

def sideB (n : Int) : Bool := decide (1 ≤ n) && decide (n ≤ 8)
def shadeB (n : Int) : Bool := decide (0 ≤ n) && decide (n ≤ 255)

theorem side_any (n : Int) (w : World) (b : Bool) (HB : Hid (sideB n = b)) : Calls Tryd.prog 43 #[.int .i64 n] w fun e w' => e = .returned (.bool b) ∧ w = w' := by
  by_cases h1 : 1 ≤ n
  · by_cases h2 : n ≤ 8
    · have hb : b = true := by rw [← HB.out]; unfold sideB; simp [h1, h2]
      subst hb
      go_enter Tryd.func43, Tryd.ntmps43
      go_wp2
      go_ret
      exact ⟨by simp, rfl⟩
    · have hb : b = false := by rw [← HB.out]; unfold sideB; simp [h2]
      subst hb
      go_enter Tryd.func43, Tryd.ntmps43
      go_wp2
      go_ret
      exact ⟨by simp, rfl⟩
  · have hb : b = false := by rw [← HB.out]; unfold sideB; simp [h1]
    subst hb
    go_enter Tryd.func43, Tryd.ntmps43
    go_wp2
    go_ret
    exact ⟨rfl, rfl⟩

theorem shade_any (n : Int) (w : World) (b : Bool) (HB : Hid (shadeB n = b)) : Calls Tryd.prog 44 #[.int .i64 n] w fun e w' => e = .returned (.bool b) ∧ w = w' := by
  by_cases h1 : 0 ≤ n
  · by_cases h2 : n ≤ 255
    · have hb : b = true := by rw [← HB.out]; unfold shadeB; simp [h1, h2]
      subst hb
      go_enter Tryd.func44, Tryd.ntmps44
      go_wp2
      go_ret
      exact ⟨by simp, rfl⟩
    · have hb : b = false := by rw [← HB.out]; unfold shadeB; simp [h2]
      subst hb
      go_enter Tryd.func44, Tryd.ntmps44
      go_wp2
      go_ret
      exact ⟨by simp, rfl⟩
  · have hb : b = false := by rw [← HB.out]; unfold shadeB; simp [h1]
    subst hb
    go_enter Tryd.func44, Tryd.ntmps44
    go_wp2
    go_ret
    exact ⟨rfl, rfl⟩

/-- a list of pixels: so many elements, each with its two numbers in memory -/
def RdP (w : World) (v : Value) (ps : List (Int × Int)) : Prop :=
  ∃ a cap, v = .slice a ps.length cap ∧ ps.length ≤ cap ∧ cap ≤ 9223372036854775807 ∧ (ps ≠ [] → ∃ g off, a = some ⟨g, off, none⟩ ∧ g < w.heap.size ∧
    ∀ j, j < ps.length → w.cell? ⟨g, off + j * 2, none⟩ = some (.int .i64 (ps.getD j (0, 0)).1) ∧ w.cell? ⟨g, off + j * 2 + 1, none⟩ = some (.int .i64 (ps.getD j (0, 0)).2))

theorem RdP.on {w w' : World} {v : Value} {ps : List (Int × Int)} (h : RdP w v ps) (hb : Below w.heap.size w w') : RdP w' v ps := by
  obtain ⟨a, cap, hv, hl, hc, hh⟩ := h
  refine ⟨a, cap, hv, hl, hc, fun hne => ?_⟩
  obtain ⟨g, off, ha, hg, hcell⟩ := hh hne
  refine ⟨g, off, ha, Nat.lt_of_lt_of_le hg hb.size, fun j hj => ?_⟩
  rw [hb.cell (p := ⟨g, off + j * 2, none⟩) hg, hb.cell (p := ⟨g, off + j * 2 + 1, none⟩) hg]
  exact hcell j hj

def okPix (p : Int × Int) : Bool := shadeB p.1 && shadeB p.2

/-- Check's answer -/
def checkL (W H : Int) (ps : List (Int × Int)) : Nat :=
  if sideB W = false ∨ sideB H = false then 1 else if (ps.length : Int) ≠ W * H then 3 else if ps.all okPix then 0 else 1

theorem drop_pix (l : List (Int × Int)) (k : Nat) (h : k < l.length) : l.drop k = l.getD k (0, 0) :: l.drop (k + 1) := by
  rw [List.drop_eq_getElem_cons h]
  simp only [List.getD_eq_getElem?_getD, List.getElem?_eq_getElem h]
  rfl

theorem errV_one : errV 1 = .iface 50 (.int .i64 1) := rfl
theorem errV_three : errV 3 = .iface 50 (.int .i64 3) := rfl

set_option maxHeartbeats 2000000 in
set_option maxRecDepth 100000 in
theorem check_any (W H : Int) (v : Value) (ps : List (Int × Int)) (w : World) (hps : ps.length ≤ 1000000000) (HR : Hid (RdP w v ps)) (c : Nat) (HC : Hid (checkL W H ps = c)) :
    Calls Tryd.prog 24 #[.agg #[.int .i64 W, .int .i64 H, v]] w fun e w' => e = .returned (errV c) ∧ Below w.heap.size w w' := by
  cases hw : sideB W with
  | false =>
    have HW : Hid (sideB W = false) := hw
    have hc : c = 1 := by rw [← HC.out]; unfold checkL; rw [if_pos (.inl hw)]
    subst hc
    clear hw
    go_enter Tryd.func24, Tryd.ntmps24
    go_wp2_with fail
    refine (side_any W _ false HW).mono ?_
    rintro e w1 ⟨rfl, rfl⟩
    go_wp2_with fail
    go_ret
    exact ⟨rfl, (Below.refl _ _).alloc (Nat.le_refl _) _⟩
  | true =>
    have HW : Hid (sideB W = true) := hw
    cases hh : sideB H with
    | false =>
      have HH : Hid (sideB H = false) := hh
      have hc : c = 1 := by rw [← HC.out]; unfold checkL; rw [if_pos (.inr hh)]
      subst hc
      clear hw hh
      go_enter Tryd.func24, Tryd.ntmps24
      go_wp2_with fail
      refine (side_any W _ true HW).mono ?_
      rintro e w1 ⟨rfl, rfl⟩
      go_wp2_with fail
      refine (side_any H _ false HH).mono ?_
      rintro e w1 ⟨rfl, rfl⟩
      go_wp2_with fail
      go_ret
      exact ⟨rfl, (Below.refl _ _).alloc (Nat.le_refl _) _⟩
    | true =>
      have HH : Hid (sideB H = true) := hh
      have hW1 : 1 ≤ W ∧ W ≤ 8 := by unfold sideB at hw; simpa using hw
      have hH1 : 1 ≤ H ∧ H ≤ 8 := by unfold sideB at hh; simpa using hh
      obtain ⟨hW1, hW8⟩ := hW1
      obtain ⟨hH1, hH8⟩ := hH1
      have HC2 : Hid ((if (ps.length : Int) ≠ W * H then 3 else if ps.all okPix then 0 else 1) = c) := by
        unfold Hid; rw [← HC.out]; unfold checkL; simp only [hw, hh]; simp
      clear hw hh
      obtain ⟨M, HM⟩ : ∃ M : Nat, Hid (W * H = (M : Int)) := ⟨(W * H).toNat, by unfold Hid; have := Int.mul_nonneg (show 0 ≤ W by omega) (show 0 ≤ H by omega); omega⟩
      have hm64 : M ≤ 64 := by
        have h1 : W * H ≤ 8 * 8 := Int.mul_le_mul hW8 hH8 (by omega) (by omega)
        have := HM.out; omega
      have hm1 : 1 ≤ M := by
        have h1 : 1 * 1 ≤ W * H := Int.mul_le_mul hW1 hH1 (by omega) (by omega)
        have := HM.out; omega
      have hmul : W * H = (M : Int) := HM.out
      obtain ⟨a, cap, rfl, hcap, hcap2, HCL⟩ := HR.out
      have HCL' : Hid (ps ≠ [] → ∃ g off, a = some ⟨g, off, none⟩ ∧ g < w.heap.size ∧ ∀ j, j < ps.length → w.cell? ⟨g, off + j * 2, none⟩ = some (.int .i64 (ps.getD j (0, 0)).1) ∧ w.cell? ⟨g, off + j * 2 + 1, none⟩ = some (.int .i64 (ps.getD j (0, 0)).2)) := HCL
      clear HCL HR
      by_cases hne : ps.length = M
      · have hneb : ((ps.length : Int) != (M : Int)) = false := by rw [bne_eq_false_iff_eq]; omega
        have HC3 : Hid ((if ps.all okPix then 0 else 1) = c) := by
          unfold Hid; rw [← HC2.out, if_neg (show ¬ (ps.length : Int) ≠ W * H by rw [HM.out]; omega)]
        have hpne : ps ≠ [] := by intro e; rw [e] at hne; simp at hne; omega
        obtain ⟨g, off, rfl, hg, hcell⟩ := HCL'.out hpne
        have HCE : Hid (∀ j, j < ps.length → w.cell? ⟨g, off + j * 2, none⟩ = some (.int .i64 (ps.getD j (0, 0)).1) ∧ w.cell? ⟨g, off + j * 2 + 1, none⟩ = some (.int .i64 (ps.getD j (0, 0)).2)) := hcell
        have HNE : Hid (ps.length = M) := hne
        clear hcell HCL' hpne
        rw [hne] at hcap hps hneb ⊢
        clear hne
        go_enter Tryd.func24, Tryd.ntmps24
        go_wp2_with fail
        refine (side_any W _ true HW).mono ?_
        rintro e w1 ⟨rfl, rfl⟩
        go_wp2_with fail
        refine (side_any H _ true HH).mono ?_
        rintro e w1 ⟨rfl, rfl⟩
        go_wp2_with fail
        go_loopw [29] (fun i wr => ∃ k : Nat, k ≤ M ∧ i = .int .i64 k ∧ Below w.heap.size w wr ∧ Hid (ps.all okPix = (ps.drop k).all okPix)) (fun i _ => M - (intOf i).toNat)
        case atStart => exact ⟨0, by omega, rfl, (Below.refl _ _).alloc (Nat.le_refl _) _, (rfl : _ = _)⟩
        case round =>
          obtain ⟨k, hk, rfl, hb, HK⟩ := hrel
          by_cases hlt : k < M
          · have hc := HCE.out k (by rw [HNE.out]; exact hlt)
            obtain ⟨p, HP⟩ : ∃ p, Hid (ps.getD k (0, 0) = p) := ⟨_, (rfl : _ = _)⟩
            rw [HP.out] at hc
            obtain ⟨pv, pa⟩ := p
            obtain ⟨hc0, hc1⟩ := hc
            have hd0 : wr.cell? ⟨g, off + k * 2, none⟩ = some (.int .i64 pv) := by rw [hb.cell (p := ⟨g, off + k * 2, none⟩) hg, hc0]
            have hd1 : wr.cell? ⟨g, off + k * 2 + 1, none⟩ = some (.int .i64 pa) := by rw [hb.cell (p := ⟨g, off + k * 2 + 1, none⟩) hg, hc1]
            clear hc0 hc1
            have HS : Hid ((ps.drop k).all okPix = (shadeB pv && shadeB pa && (ps.drop (k + 1)).all okPix)) := by
              unfold Hid; rw [drop_pix ps k (by rw [HNE.out]; exact hlt), HP.out, List.all_cons]; rfl
            cases hsv : shadeB pv with
            | false =>
              have HV : Hid (shadeB pv = false) := hsv
              have hc : c = 1 := by rw [← HC3.out, HK.out, HS.out, hsv]; rfl
              subst hc
              clear hsv
              go_wp2_with fail
              refine (shade_any pv _ false HV).mono ?_
              rintro e w1 ⟨rfl, rfl⟩
              go_wp2_with fail
              go_ret
              exact ⟨rfl, hb.alloc hb.size _⟩
            | true =>
              have HV : Hid (shadeB pv = true) := hsv
              cases hsa : shadeB pa with
              | false =>
                have HA : Hid (shadeB pa = false) := hsa
                have hc : c = 1 := by rw [← HC3.out, HK.out, HS.out, hsa, hsv]; rfl
                subst hc
                clear hsv hsa
                go_wp2_with fail
                refine (shade_any pv _ true HV).mono ?_
                rintro e w1 ⟨rfl, rfl⟩
                go_wp2_with fail
                refine (shade_any pa _ false HA).mono ?_
                rintro e w1 ⟨rfl, rfl⟩
                go_wp2_with fail
                go_ret
                exact ⟨rfl, hb.alloc hb.size _⟩
              | true =>
                have HA : Hid (shadeB pa = true) := hsa
                have HN : Hid (ps.all okPix = (ps.drop (k + 1)).all okPix) := by unfold Hid; rw [HK.out, HS.out, hsa, hsv]; rfl
                clear hsv hsa
                go_wp2_with fail
                refine (shade_any pv _ true HV).mono ?_
                rintro e w1 ⟨rfl, rfl⟩
                go_wp2_with fail
                refine (shade_any pa _ true HA).mono ?_
                rintro e w1 ⟨rfl, rfl⟩
                go_wp2_with fail
                go_roundw
                case rel => exact ⟨k + 1, by omega, by go_num, hb.alloc hb.size _, HN⟩
                case measure => simp [intOf]; omega
          · have hc : c = 0 := by rw [← HC3.out, HK.out, List.drop_eq_nil_of_le (by rw [HNE.out]; omega)]; rfl
            subst hc
            go_wp2_with fail
            go_ret
            exact ⟨rfl, hb⟩
      · have hneb : ((ps.length : Int) != (M : Int)) = true := by rw [bne_iff_ne]; omega
        have hc : c = 3 := by rw [← HC2.out, if_pos (show (ps.length : Int) ≠ W * H by rw [HM.out]; omega)]
        subst hc
        go_enter Tryd.func24, Tryd.ntmps24
        go_wp2_with fail
        refine (side_any W _ true HW).mono ?_
        rintro e w1 ⟨rfl, rfl⟩
        go_wp2_with fail
        refine (side_any H _ true HH).mono ?_
        rintro e w1 ⟨rfl, rfl⟩
        go_wp2_with fail
        go_ret
        exact ⟨rfl, (Below.refl _ _).alloc (Nat.le_refl _) _⟩
end Go.Proofs.YtkmolifgfbaboaaDoor
