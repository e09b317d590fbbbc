/- Some of the walks, in one text. -/
import Derived.Test.YtceabiodelfdoaaGreatDoorM10
import Derived.Lib.Strings
import Derived.Lib.AppendStr
import Derived.Maps.AppendAt
import Derived.StillTailTactics
import Derived.SliceStrings
import Derived.Deep.RegionHeld3
import Derived.Deep.Cut
/- Walk of picture.tell, way by way. -/
namespace Go.Proofs.YtceabiodelfdoaaGreatDoor
open Go.RowKit

set_option maxHeartbeats 4000000 in
set_option maxRecDepth 100000 in
theorem tell0 (v u : Value) (row ab : List UInt8) (w : World) (hne : row ≠ []) (hlen : row.length ≤ 1000) (HR : Hid (RdB w v row)) (HA : Hid (RdB w u ab)) :
    Calls Tryz.prog 81 #[.int .i64 0, v, u] w fun e w' => e = .returned (str (Fb.tellL 0 row ab)) ∧ Below w.heap.size w w' := by
  obtain ⟨i0, hi, hz0, hz1, hz2⟩ := info_parts Tryz.infoByte
  obtain ⟨a, cap, hv, hlc, hcap, hh⟩ := HR.out
  obtain ⟨gr, rfl, hgr, hcr⟩ := hh hne
  obtain ⟨a2, cap2, hu, hl2, hc2, hh2⟩ := HA.out
  clear hl2 hh2
  obtain ⟨n, HN⟩ : ∃ n, Hid (row.length = n) := ⟨_, (rfl : _ = _)⟩
  rw [HN.out] at hv hlc hlen
  have HCR : Hid (∀ j, j < n → w.cell? ⟨gr, j, none⟩ = some (bv (row.getD j 0))) := by unfold Hid; rw [← HN.out]; exact hcr
  clear hcr hh
  have HGC : Hid (GuessC 0 85 #[] w.heap.size v u) := guess0 _ _ _
  have HGU : Hid (Calls Tryz.prog 77 #[.int .i64 0, v, u] w fun e w' => e = .returned (.func (.func 85) #[] #[]) ∧ Boxes w' w.heap.size v u ∧ Below w.heap.size w w') := guesser_any 0 (by decide) v u w n cap ab.length cap2 _ a2 hv hu
  subst hv hu
  go_enter Tryz.func81, Tryz.ntmps81
  go_wp2_with fail
  refine Calls.mono HGU.out ?_
  rintro e w1 ⟨rfl, hbx, hb1⟩
  have HBX : Hid (Boxes w1 w.heap.size (.slice (some ⟨gr, 0, none⟩) n cap) (.slice a2 ab.length cap2)) := hbx
  clear hbx HGU
  go_wp2_with (at_make; refine wpList_make_full _ rfl _ _ 55 rfl w1.heap.size 5 i0 (.int .u8 0) 1 Tryz.underlying55 hi hz0 hz1 _ _ _ _ n rfl rfl rfl rfl ?b1 ?b2 ?b3 ?_)
  case b1 => rw [hz2]; omega
  case b2 => unfold maxLen; omega
  case b3 => exact Nat.le_refl _
  intro w2 hown2 hgrow2
  rw [made_zero] at hown2
  have hb2 : Below w1.heap.size w1 w2 := (Below.refl _ _).grown hgrow2 (Nat.le_refl _) (by intro k hk; cases hk)
  clear hgrow2
  go_wp2_with fail
  go_loopw [19] (fun i wr => ∃ k : Nat, k ≤ n ∧ i = .int .i64 k ∧ Below w1.heap.size w1 wr ∧ Hid (wr.ownsRow w1.heap.size 5 1 (.slice (some ⟨w1.heap.size, 0, none⟩) n n) n ((Fb.tellTo 0 row ab k ++ List.replicate (n - k) 0).map bv))) (fun i _ => n - (intOf i).toNat)
  case atStart => exact ⟨0, by omega, rfl, hb2, hown2⟩
  case round =>
    obtain ⟨k, hk, rfl, hb, HOWN⟩ := hrel
    by_cases hlt : k < n
    · have hc := HCR.out k hlt
      obtain ⟨x, HX⟩ : ∃ x, Hid (row.getD k 0 = x) := ⟨_, (rfl : _ = _)⟩
      obtain ⟨y, HY⟩ : ∃ x, Hid (Fb.guessB 0 row ab k = x) := ⟨_, (rfl : _ = _)⟩
      obtain ⟨xx, HXX⟩ : ∃ m, Hid (x.toNat = m) := ⟨_, (rfl : _ = _)⟩
      obtain ⟨yy, HYY⟩ : ∃ m, Hid (y.toNat = m) := ⟨_, (rfl : _ = _)⟩
      obtain ⟨dd, HDD⟩ : ∃ m, Hid ((x - y).toNat = m) := ⟨_, (rfl : _ = _)⟩
      have hgr1 : gr < w1.heap.size := Nat.lt_of_lt_of_le hgr hb1.size
      have hcx : wr.cell? ⟨gr, k, none⟩ = some (.int .u8 (xx : Int)) := by
        rw [hb.cell (p := ⟨gr, k, none⟩) hgr1, hb1.cell (p := ⟨gr, k, none⟩) hgr, hc, HX.out, ← HXX.out]; rfl
      have hsub : IntKind.u8.wrap ((xx : Int) - (yy : Int)) = (dd : Int) := by rw [← HXX.out, ← HYY.out, ← HDD.out]; exact sub_byte x y
      have hfz := HOWN.out.frozenAt k
      have hcg : wr.cell? ⟨w1.heap.size, k, none⟩ = some (.int .u8 0) := by
        rw [HOWN.out.cellAt k (by omega), List.getElem?_map, List.getElem?_append_right (by rw [Fb.tellTo_len]; omega), Fb.tellTo_len, Nat.sub_self, show n - k = (n - k - 1) + 1 by omega, List.replicate_succ]; rfl
      have HCALL : Hid (Calls Tryz.prog 85 #[.int .i64 (k : Int)] wr.drew fun e W' => e = .returned (.int .u8 (yy : Int)) ∧ ∃ q, W' = wr.drew.drewN q) := by
        have h := HGC.out wr.drew row ab k (by omega) (by rw [HN.out]; omega) (HBX.out.on hb).drew ((HR.out.on hb1).on hb).drew ((HA.out.on hb1).on hb).drew
        rw [HY.out, HYY.out] at h
        exact h
      have HSET : Hid (∀ m, ((wr.drewN m).setCell ⟨w1.heap.size, k, none⟩ (.int .u8 (dd : Int))).ownsRow w1.heap.size 5 1 (.slice (some ⟨w1.heap.size, 0, none⟩) n n) n ((Fb.tellTo 0 row ab (k + 1) ++ List.replicate (n - (k + 1)) 0).map bv)) := by
        unfold Hid
        intro m
        have h := ((owns_drewN HOWN.out m).stored k (.int .u8 (dd : Int))).1
        have e : (.int .u8 (dd : Int) : Value) = bv (x - y) := by unfold bv; rw [HDD.out]
        rw [e, set_row _ _ k n hlt (Fb.tellTo_len _ _ _ _)] at h
        rw [e, Fb.tellTo, HX.out, HY.out]
        exact h
      clear hc
      go_upto_region 6 with fail
      go_region_with (go_at_call 85; refine Calls.mono HCALL.out ?_; rintro e w3 ⟨rfl, q, rfl⟩)
      all_goals go_wp2_with fail
      all_goals (go_roundw; (case rel => exact ⟨k + 1, by omega, by go_num, (below_drewN hb _).setCell (Nat.le_refl _) _, HSET.out _⟩); (case measure => simp [intOf]; omega))
    · have hkn : k = n := by omega
      subst hkn
      have HOWN2 : wr.ownsRow w1.heap.size 5 1 (.slice (some ⟨w1.heap.size, 0, none⟩) k k) (Fb.tellL 0 row ab).length ((Fb.tellL 0 row ab).map bv) := by
        have h := HOWN.out
        rw [Nat.sub_self] at h
        unfold Fb.tellL
        rw [Fb.tellTo_len, HN.out]
        simpa using h
      have hst := run_str HOWN2
      clear HOWN2
      go_wp2_with fail
      go_ret
      exact ⟨rfl, hb1.trans (hb.mono hb1.size)⟩

set_option maxHeartbeats 4000000 in
set_option maxRecDepth 100000 in
theorem tell1 (v u : Value) (row ab : List UInt8) (w : World) (hne : row ≠ []) (hlen : row.length ≤ 1000) (HR : Hid (RdB w v row)) (HA : Hid (RdB w u ab)) :
    Calls Tryz.prog 81 #[.int .i64 1, v, u] w fun e w' => e = .returned (str (Fb.tellL 1 row ab)) ∧ Below w.heap.size w w' := by
  obtain ⟨i0, hi, hz0, hz1, hz2⟩ := info_parts Tryz.infoByte
  obtain ⟨a, cap, hv, hlc, hcap, hh⟩ := HR.out
  obtain ⟨gr, rfl, hgr, hcr⟩ := hh hne
  obtain ⟨a2, cap2, hu, hl2, hc2, hh2⟩ := HA.out
  clear hl2 hh2
  obtain ⟨n, HN⟩ : ∃ n, Hid (row.length = n) := ⟨_, (rfl : _ = _)⟩
  rw [HN.out] at hv hlc hlen
  have HCR : Hid (∀ j, j < n → w.cell? ⟨gr, j, none⟩ = some (bv (row.getD j 0))) := by unfold Hid; rw [← HN.out]; exact hcr
  clear hcr hh
  have HGC : Hid (GuessC 1 82 #[.pointer (some ⟨w.heap.size, 0, none⟩)] w.heap.size v u) := guess1 _ _ _
  have HGU : Hid (Calls Tryz.prog 77 #[.int .i64 1, v, u] w fun e w' => e = .returned (.func (.func 82) #[] #[.pointer (some ⟨w.heap.size, 0, none⟩)]) ∧ Boxes w' w.heap.size v u ∧ Below w.heap.size w w') := guesser_any 1 (by decide) v u w n cap ab.length cap2 _ a2 hv hu
  subst hv hu
  go_enter Tryz.func81, Tryz.ntmps81
  go_wp2_with fail
  refine Calls.mono HGU.out ?_
  rintro e w1 ⟨rfl, hbx, hb1⟩
  have HBX : Hid (Boxes w1 w.heap.size (.slice (some ⟨gr, 0, none⟩) n cap) (.slice a2 ab.length cap2)) := hbx
  clear hbx HGU
  go_wp2_with (at_make; refine wpList_make_full _ rfl _ _ 55 rfl w1.heap.size 5 i0 (.int .u8 0) 1 Tryz.underlying55 hi hz0 hz1 _ _ _ _ n rfl rfl rfl rfl ?b1 ?b2 ?b3 ?_)
  case b1 => rw [hz2]; omega
  case b2 => unfold maxLen; omega
  case b3 => exact Nat.le_refl _
  intro w2 hown2 hgrow2
  rw [made_zero] at hown2
  have hb2 : Below w1.heap.size w1 w2 := (Below.refl _ _).grown hgrow2 (Nat.le_refl _) (by intro k hk; cases hk)
  clear hgrow2
  go_wp2_with fail
  go_loopw [19] (fun i wr => ∃ k : Nat, k ≤ n ∧ i = .int .i64 k ∧ Below w1.heap.size w1 wr ∧ Hid (wr.ownsRow w1.heap.size 5 1 (.slice (some ⟨w1.heap.size, 0, none⟩) n n) n ((Fb.tellTo 1 row ab k ++ List.replicate (n - k) 0).map bv))) (fun i _ => n - (intOf i).toNat)
  case atStart => exact ⟨0, by omega, rfl, hb2, hown2⟩
  case round =>
    obtain ⟨k, hk, rfl, hb, HOWN⟩ := hrel
    by_cases hlt : k < n
    · have hc := HCR.out k hlt
      obtain ⟨x, HX⟩ : ∃ x, Hid (row.getD k 0 = x) := ⟨_, (rfl : _ = _)⟩
      obtain ⟨y, HY⟩ : ∃ x, Hid (Fb.guessB 1 row ab k = x) := ⟨_, (rfl : _ = _)⟩
      obtain ⟨xx, HXX⟩ : ∃ m, Hid (x.toNat = m) := ⟨_, (rfl : _ = _)⟩
      obtain ⟨yy, HYY⟩ : ∃ m, Hid (y.toNat = m) := ⟨_, (rfl : _ = _)⟩
      obtain ⟨dd, HDD⟩ : ∃ m, Hid ((x - y).toNat = m) := ⟨_, (rfl : _ = _)⟩
      have hgr1 : gr < w1.heap.size := Nat.lt_of_lt_of_le hgr hb1.size
      have hcx : wr.cell? ⟨gr, k, none⟩ = some (.int .u8 (xx : Int)) := by
        rw [hb.cell (p := ⟨gr, k, none⟩) hgr1, hb1.cell (p := ⟨gr, k, none⟩) hgr, hc, HX.out, ← HXX.out]; rfl
      have hsub : IntKind.u8.wrap ((xx : Int) - (yy : Int)) = (dd : Int) := by rw [← HXX.out, ← HYY.out, ← HDD.out]; exact sub_byte x y
      have hfz := HOWN.out.frozenAt k
      have hcg : wr.cell? ⟨w1.heap.size, k, none⟩ = some (.int .u8 0) := by
        rw [HOWN.out.cellAt k (by omega), List.getElem?_map, List.getElem?_append_right (by rw [Fb.tellTo_len]; omega), Fb.tellTo_len, Nat.sub_self, show n - k = (n - k - 1) + 1 by omega, List.replicate_succ]; rfl
      have HCALL : Hid (Calls Tryz.prog 82 #[.int .i64 (k : Int), .pointer (some ⟨w.heap.size, 0, none⟩)] wr.drew fun e W' => e = .returned (.int .u8 (yy : Int)) ∧ ∃ q, W' = wr.drew.drewN q) := by
        have h := HGC.out wr.drew row ab k (by omega) (by rw [HN.out]; omega) (HBX.out.on hb).drew ((HR.out.on hb1).on hb).drew ((HA.out.on hb1).on hb).drew
        rw [HY.out, HYY.out] at h
        exact h
      have HSET : Hid (∀ m, ((wr.drewN m).setCell ⟨w1.heap.size, k, none⟩ (.int .u8 (dd : Int))).ownsRow w1.heap.size 5 1 (.slice (some ⟨w1.heap.size, 0, none⟩) n n) n ((Fb.tellTo 1 row ab (k + 1) ++ List.replicate (n - (k + 1)) 0).map bv)) := by
        unfold Hid
        intro m
        have h := ((owns_drewN HOWN.out m).stored k (.int .u8 (dd : Int))).1
        have e : (.int .u8 (dd : Int) : Value) = bv (x - y) := by unfold bv; rw [HDD.out]
        rw [e, set_row _ _ k n hlt (Fb.tellTo_len _ _ _ _)] at h
        rw [e, Fb.tellTo, HX.out, HY.out]
        exact h
      clear hc
      go_upto_region 6 with fail
      go_region_with (go_at_call 82; refine Calls.mono HCALL.out ?_; rintro e w3 ⟨rfl, q, rfl⟩)
      all_goals go_wp2_with fail
      all_goals (go_roundw; (case rel => exact ⟨k + 1, by omega, by go_num, (below_drewN hb _).setCell (Nat.le_refl _) _, HSET.out _⟩); (case measure => simp [intOf]; omega))
    · have hkn : k = n := by omega
      subst hkn
      have HOWN2 : wr.ownsRow w1.heap.size 5 1 (.slice (some ⟨w1.heap.size, 0, none⟩) k k) (Fb.tellL 1 row ab).length ((Fb.tellL 1 row ab).map bv) := by
        have h := HOWN.out
        rw [Nat.sub_self] at h
        unfold Fb.tellL
        rw [Fb.tellTo_len, HN.out]
        simpa using h
      have hst := run_str HOWN2
      clear HOWN2
      go_wp2_with fail
      go_ret
      exact ⟨rfl, hb1.trans (hb.mono hb1.size)⟩

set_option maxHeartbeats 4000000 in
set_option maxRecDepth 100000 in
theorem tell2 (v u : Value) (row ab : List UInt8) (w : World) (hne : row ≠ []) (hlen : row.length ≤ 1000) (HR : Hid (RdB w v row)) (HA : Hid (RdB w u ab)) :
    Calls Tryz.prog 81 #[.int .i64 2, v, u] w fun e w' => e = .returned (str (Fb.tellL 2 row ab)) ∧ Below w.heap.size w w' := by
  obtain ⟨i0, hi, hz0, hz1, hz2⟩ := info_parts Tryz.infoByte
  obtain ⟨a, cap, hv, hlc, hcap, hh⟩ := HR.out
  obtain ⟨gr, rfl, hgr, hcr⟩ := hh hne
  obtain ⟨a2, cap2, hu, hl2, hc2, hh2⟩ := HA.out
  clear hl2 hh2
  obtain ⟨n, HN⟩ : ∃ n, Hid (row.length = n) := ⟨_, (rfl : _ = _)⟩
  rw [HN.out] at hv hlc hlen
  have HCR : Hid (∀ j, j < n → w.cell? ⟨gr, j, none⟩ = some (bv (row.getD j 0))) := by unfold Hid; rw [← HN.out]; exact hcr
  clear hcr hh
  have HGC : Hid (GuessC 2 83 #[.pointer (some ⟨w.heap.size + 1, 0, none⟩)] w.heap.size v u) := guess2 _ _ _
  have HGU : Hid (Calls Tryz.prog 77 #[.int .i64 2, v, u] w fun e w' => e = .returned (.func (.func 83) #[] #[.pointer (some ⟨w.heap.size + 1, 0, none⟩)]) ∧ Boxes w' w.heap.size v u ∧ Below w.heap.size w w') := guesser_any 2 (by decide) v u w n cap ab.length cap2 _ a2 hv hu
  subst hv hu
  go_enter Tryz.func81, Tryz.ntmps81
  go_wp2_with fail
  refine Calls.mono HGU.out ?_
  rintro e w1 ⟨rfl, hbx, hb1⟩
  have HBX : Hid (Boxes w1 w.heap.size (.slice (some ⟨gr, 0, none⟩) n cap) (.slice a2 ab.length cap2)) := hbx
  clear hbx HGU
  go_wp2_with (at_make; refine wpList_make_full _ rfl _ _ 55 rfl w1.heap.size 5 i0 (.int .u8 0) 1 Tryz.underlying55 hi hz0 hz1 _ _ _ _ n rfl rfl rfl rfl ?b1 ?b2 ?b3 ?_)
  case b1 => rw [hz2]; omega
  case b2 => unfold maxLen; omega
  case b3 => exact Nat.le_refl _
  intro w2 hown2 hgrow2
  rw [made_zero] at hown2
  have hb2 : Below w1.heap.size w1 w2 := (Below.refl _ _).grown hgrow2 (Nat.le_refl _) (by intro k hk; cases hk)
  clear hgrow2
  go_wp2_with fail
  go_loopw [19] (fun i wr => ∃ k : Nat, k ≤ n ∧ i = .int .i64 k ∧ Below w1.heap.size w1 wr ∧ Hid (wr.ownsRow w1.heap.size 5 1 (.slice (some ⟨w1.heap.size, 0, none⟩) n n) n ((Fb.tellTo 2 row ab k ++ List.replicate (n - k) 0).map bv))) (fun i _ => n - (intOf i).toNat)
  case atStart => exact ⟨0, by omega, rfl, hb2, hown2⟩
  case round =>
    obtain ⟨k, hk, rfl, hb, HOWN⟩ := hrel
    by_cases hlt : k < n
    · have hc := HCR.out k hlt
      obtain ⟨x, HX⟩ : ∃ x, Hid (row.getD k 0 = x) := ⟨_, (rfl : _ = _)⟩
      obtain ⟨y, HY⟩ : ∃ x, Hid (Fb.guessB 2 row ab k = x) := ⟨_, (rfl : _ = _)⟩
      obtain ⟨xx, HXX⟩ : ∃ m, Hid (x.toNat = m) := ⟨_, (rfl : _ = _)⟩
      obtain ⟨yy, HYY⟩ : ∃ m, Hid (y.toNat = m) := ⟨_, (rfl : _ = _)⟩
      obtain ⟨dd, HDD⟩ : ∃ m, Hid ((x - y).toNat = m) := ⟨_, (rfl : _ = _)⟩
      have hgr1 : gr < w1.heap.size := Nat.lt_of_lt_of_le hgr hb1.size
      have hcx : wr.cell? ⟨gr, k, none⟩ = some (.int .u8 (xx : Int)) := by
        rw [hb.cell (p := ⟨gr, k, none⟩) hgr1, hb1.cell (p := ⟨gr, k, none⟩) hgr, hc, HX.out, ← HXX.out]; rfl
      have hsub : IntKind.u8.wrap ((xx : Int) - (yy : Int)) = (dd : Int) := by rw [← HXX.out, ← HYY.out, ← HDD.out]; exact sub_byte x y
      have hfz := HOWN.out.frozenAt k
      have hcg : wr.cell? ⟨w1.heap.size, k, none⟩ = some (.int .u8 0) := by
        rw [HOWN.out.cellAt k (by omega), List.getElem?_map, List.getElem?_append_right (by rw [Fb.tellTo_len]; omega), Fb.tellTo_len, Nat.sub_self, show n - k = (n - k - 1) + 1 by omega, List.replicate_succ]; rfl
      have HCALL : Hid (Calls Tryz.prog 83 #[.int .i64 (k : Int), .pointer (some ⟨w.heap.size + 1, 0, none⟩)] wr.drew fun e W' => e = .returned (.int .u8 (yy : Int)) ∧ ∃ q, W' = wr.drew.drewN q) := by
        have h := HGC.out wr.drew row ab k (by omega) (by rw [HN.out]; omega) (HBX.out.on hb).drew ((HR.out.on hb1).on hb).drew ((HA.out.on hb1).on hb).drew
        rw [HY.out, HYY.out] at h
        exact h
      have HSET : Hid (∀ m, ((wr.drewN m).setCell ⟨w1.heap.size, k, none⟩ (.int .u8 (dd : Int))).ownsRow w1.heap.size 5 1 (.slice (some ⟨w1.heap.size, 0, none⟩) n n) n ((Fb.tellTo 2 row ab (k + 1) ++ List.replicate (n - (k + 1)) 0).map bv)) := by
        unfold Hid
        intro m
        have h := ((owns_drewN HOWN.out m).stored k (.int .u8 (dd : Int))).1
        have e : (.int .u8 (dd : Int) : Value) = bv (x - y) := by unfold bv; rw [HDD.out]
        rw [e, set_row _ _ k n hlt (Fb.tellTo_len _ _ _ _)] at h
        rw [e, Fb.tellTo, HX.out, HY.out]
        exact h
      clear hc
      go_upto_region 6 with fail
      go_region_with (go_at_call 83; refine Calls.mono HCALL.out ?_; rintro e w3 ⟨rfl, q, rfl⟩)
      all_goals go_wp2_with fail
      all_goals (go_roundw; (case rel => exact ⟨k + 1, by omega, by go_num, (below_drewN hb _).setCell (Nat.le_refl _) _, HSET.out _⟩); (case measure => simp [intOf]; omega))
    · have hkn : k = n := by omega
      subst hkn
      have HOWN2 : wr.ownsRow w1.heap.size 5 1 (.slice (some ⟨w1.heap.size, 0, none⟩) k k) (Fb.tellL 2 row ab).length ((Fb.tellL 2 row ab).map bv) := by
        have h := HOWN.out
        rw [Nat.sub_self] at h
        unfold Fb.tellL
        rw [Fb.tellTo_len, HN.out]
        simpa using h
      have hst := run_str HOWN2
      clear HOWN2
      go_wp2_with fail
      go_ret
      exact ⟨rfl, hb1.trans (hb.mono hb1.size)⟩

set_option maxHeartbeats 4000000 in
set_option maxRecDepth 100000 in
theorem tell3 (v u : Value) (row ab : List UInt8) (w : World) (hne : row ≠ []) (hlen : row.length ≤ 1000) (HR : Hid (RdB w v row)) (HA : Hid (RdB w u ab)) :
    Calls Tryz.prog 81 #[.int .i64 3, v, u] w fun e w' => e = .returned (str (Fb.tellL 3 row ab)) ∧ Below w.heap.size w w' := by
  obtain ⟨i0, hi, hz0, hz1, hz2⟩ := info_parts Tryz.infoByte
  obtain ⟨a, cap, hv, hlc, hcap, hh⟩ := HR.out
  obtain ⟨gr, rfl, hgr, hcr⟩ := hh hne
  obtain ⟨a2, cap2, hu, hl2, hc2, hh2⟩ := HA.out
  clear hl2 hh2
  obtain ⟨n, HN⟩ : ∃ n, Hid (row.length = n) := ⟨_, (rfl : _ = _)⟩
  rw [HN.out] at hv hlc hlen
  have HCR : Hid (∀ j, j < n → w.cell? ⟨gr, j, none⟩ = some (bv (row.getD j 0))) := by unfold Hid; rw [← HN.out]; exact hcr
  clear hcr hh
  have HGC : Hid (GuessC 3 84 #[.pointer (some ⟨w.heap.size + 2, 0, none⟩), .pointer (some ⟨w.heap.size + 3, 0, none⟩)] w.heap.size v u) := guess3 _ _ _
  have HGU : Hid (Calls Tryz.prog 77 #[.int .i64 3, v, u] w fun e w' => e = .returned (.func (.func 84) #[] #[.pointer (some ⟨w.heap.size + 2, 0, none⟩), .pointer (some ⟨w.heap.size + 3, 0, none⟩)]) ∧ Boxes w' w.heap.size v u ∧ Below w.heap.size w w') := guesser_any 3 (by decide) v u w n cap ab.length cap2 _ a2 hv hu
  subst hv hu
  go_enter Tryz.func81, Tryz.ntmps81
  go_wp2_with fail
  refine Calls.mono HGU.out ?_
  rintro e w1 ⟨rfl, hbx, hb1⟩
  have HBX : Hid (Boxes w1 w.heap.size (.slice (some ⟨gr, 0, none⟩) n cap) (.slice a2 ab.length cap2)) := hbx
  clear hbx HGU
  go_wp2_with (at_make; refine wpList_make_full _ rfl _ _ 55 rfl w1.heap.size 5 i0 (.int .u8 0) 1 Tryz.underlying55 hi hz0 hz1 _ _ _ _ n rfl rfl rfl rfl ?b1 ?b2 ?b3 ?_)
  case b1 => rw [hz2]; omega
  case b2 => unfold maxLen; omega
  case b3 => exact Nat.le_refl _
  intro w2 hown2 hgrow2
  rw [made_zero] at hown2
  have hb2 : Below w1.heap.size w1 w2 := (Below.refl _ _).grown hgrow2 (Nat.le_refl _) (by intro k hk; cases hk)
  clear hgrow2
  go_wp2_with fail
  go_loopw [19] (fun i wr => ∃ k : Nat, k ≤ n ∧ i = .int .i64 k ∧ Below w1.heap.size w1 wr ∧ Hid (wr.ownsRow w1.heap.size 5 1 (.slice (some ⟨w1.heap.size, 0, none⟩) n n) n ((Fb.tellTo 3 row ab k ++ List.replicate (n - k) 0).map bv))) (fun i _ => n - (intOf i).toNat)
  case atStart => exact ⟨0, by omega, rfl, hb2, hown2⟩
  case round =>
    obtain ⟨k, hk, rfl, hb, HOWN⟩ := hrel
    by_cases hlt : k < n
    · have hc := HCR.out k hlt
      obtain ⟨x, HX⟩ : ∃ x, Hid (row.getD k 0 = x) := ⟨_, (rfl : _ = _)⟩
      obtain ⟨y, HY⟩ : ∃ x, Hid (Fb.guessB 3 row ab k = x) := ⟨_, (rfl : _ = _)⟩
      obtain ⟨xx, HXX⟩ : ∃ m, Hid (x.toNat = m) := ⟨_, (rfl : _ = _)⟩
      obtain ⟨yy, HYY⟩ : ∃ m, Hid (y.toNat = m) := ⟨_, (rfl : _ = _)⟩
      obtain ⟨dd, HDD⟩ : ∃ m, Hid ((x - y).toNat = m) := ⟨_, (rfl : _ = _)⟩
      have hgr1 : gr < w1.heap.size := Nat.lt_of_lt_of_le hgr hb1.size
      have hcx : wr.cell? ⟨gr, k, none⟩ = some (.int .u8 (xx : Int)) := by
        rw [hb.cell (p := ⟨gr, k, none⟩) hgr1, hb1.cell (p := ⟨gr, k, none⟩) hgr, hc, HX.out, ← HXX.out]; rfl
      have hsub : IntKind.u8.wrap ((xx : Int) - (yy : Int)) = (dd : Int) := by rw [← HXX.out, ← HYY.out, ← HDD.out]; exact sub_byte x y
      have hfz := HOWN.out.frozenAt k
      have hcg : wr.cell? ⟨w1.heap.size, k, none⟩ = some (.int .u8 0) := by
        rw [HOWN.out.cellAt k (by omega), List.getElem?_map, List.getElem?_append_right (by rw [Fb.tellTo_len]; omega), Fb.tellTo_len, Nat.sub_self, show n - k = (n - k - 1) + 1 by omega, List.replicate_succ]; rfl
      have HCALL : Hid (Calls Tryz.prog 84 #[.int .i64 (k : Int), .pointer (some ⟨w.heap.size + 2, 0, none⟩), .pointer (some ⟨w.heap.size + 3, 0, none⟩)] wr.drew fun e W' => e = .returned (.int .u8 (yy : Int)) ∧ ∃ q, W' = wr.drew.drewN q) := by
        have h := HGC.out wr.drew row ab k (by omega) (by rw [HN.out]; omega) (HBX.out.on hb).drew ((HR.out.on hb1).on hb).drew ((HA.out.on hb1).on hb).drew
        rw [HY.out, HYY.out] at h
        exact h
      have HSET : Hid (∀ m, ((wr.drewN m).setCell ⟨w1.heap.size, k, none⟩ (.int .u8 (dd : Int))).ownsRow w1.heap.size 5 1 (.slice (some ⟨w1.heap.size, 0, none⟩) n n) n ((Fb.tellTo 3 row ab (k + 1) ++ List.replicate (n - (k + 1)) 0).map bv)) := by
        unfold Hid
        intro m
        have h := ((owns_drewN HOWN.out m).stored k (.int .u8 (dd : Int))).1
        have e : (.int .u8 (dd : Int) : Value) = bv (x - y) := by unfold bv; rw [HDD.out]
        rw [e, set_row _ _ k n hlt (Fb.tellTo_len _ _ _ _)] at h
        rw [e, Fb.tellTo, HX.out, HY.out]
        exact h
      clear hc
      go_upto_region 6 with fail
      go_region_with (go_at_call 84; refine Calls.mono HCALL.out ?_; rintro e w3 ⟨rfl, q, rfl⟩)
      all_goals go_wp2_with fail
      all_goals (go_roundw; (case rel => exact ⟨k + 1, by omega, by go_num, (below_drewN hb _).setCell (Nat.le_refl _) _, HSET.out _⟩); (case measure => simp [intOf]; omega))
    · have hkn : k = n := by omega
      subst hkn
      have HOWN2 : wr.ownsRow w1.heap.size 5 1 (.slice (some ⟨w1.heap.size, 0, none⟩) k k) (Fb.tellL 3 row ab).length ((Fb.tellL 3 row ab).map bv) := by
        have h := HOWN.out
        rw [Nat.sub_self] at h
        unfold Fb.tellL
        rw [Fb.tellTo_len, HN.out]
        simpa using h
      have hst := run_str HOWN2
      clear HOWN2
      go_wp2_with fail
      go_ret
      exact ⟨rfl, hb1.trans (hb.mono hb1.size)⟩

set_option maxRecDepth 100000 in
theorem tell_any (way : Nat) (hway : way < 4) (v u : Value) (row ab : List UInt8) (w : World) (hne : row ≠ []) (hlen : row.length ≤ 1000) (HR : Hid (RdB w v row)) (HA : Hid (RdB w u ab)) :
    Calls Tryz.prog 81 #[.int .i64 (way : Int), v, u] w fun e w' => e = .returned (str (Fb.tellL way row ab)) ∧ Below w.heap.size w w' := by
  have h4 : way = 0 ∨ way = 1 ∨ way = 2 ∨ way = 3 := by omega
  rcases h4 with rfl | rfl | rfl | rfl
  · exact tell0 v u row ab w hne hlen HR HA
  · exact tell1 v u row ab w hne hlen HR HA
  · exact tell2 v u row ab w hne hlen HR HA
  · exact tell3 v u row ab w hne hlen HR HA
end Go.Proofs.YtceabiodelfdoaaGreatDoor
/- Walk of picture.shortest. -/
namespace Go.Proofs.YtceabiodelfdoaaGreatDoor
open Go.RowKit

set_option maxRecDepth 100000 in
theorem run_one1 (W : World) (B : Nat) (a : Int) (x : UInt8) (ha : Hid ((x.toNat : Int) = a)) (hc : W.cell? ⟨B, 0, none⟩ = some (.int .u8 a)) :
    (convert 55 9 (.slice (some ⟨B, 0, none⟩) 1 1)).run Tryz.prog W = .ok (.string ⟨#[x]⟩) W := by
  refine run_convert_bytes_back _ 55 9 5 ⟨B, 0, none⟩ 1 [x] Tryz.underlying55 Tryz.underlying5 Tryz.underlying9 ?_
  intro j hj
  match j, hj with
  | 0, _ => rw [← ha.out] at hc; simpa [Addr.add] using hc

set_option maxRecDepth 100000 in
theorem tell_at (way : Nat) (hway : way < 4) (v u : Value) (row ab : List UInt8) (w : World) (hne : row ≠ []) (hlen : row.length ≤ 1000) (HR : RdB w v row) (HA : RdB w u ab) (t : ByteArray) (HT : Hid (Fb.tellL way row ab = t.data.toList)) :
    Calls Tryz.prog 81 #[.int .i64 (way : Int), v, u] w fun e w' => e = .returned (.string t) ∧ Below w.heap.size w w' := by
  have h := tell_any way hway v u row ab w hne hlen HR HA
  rw [HT.out, str_self] at h
  exact h
set_option maxRecDepth 100000 in
theorem pack_len (s : ByteArray) (w : World) (hs : s.size ≤ 1000000) (t : ByteArray) (HT : Hid (Fb.packL s.data.toList = t.data.toList)) :
    Calls Tryz.prog 73 #[.string s] w fun e w' => e = .returned (.string t) ∧ Below w.heap.size w w' := by
  have h := pack_any s w hs
  rw [HT.out, str_self] at h
  exact h

set_option maxRecDepth 100000 in
theorem bytes_of (l : List UInt8) : ∃ t : ByteArray, Hid (l = t.data.toList) := ⟨⟨l.toArray⟩, by unfold Hid; simp⟩
set_option maxRecDepth 100000 in
theorem size_of {l : List UInt8} {t : ByteArray} (h : Hid (l = t.data.toList)) : t.size = l.length := by rw [h.out]; simp

set_option maxRecDepth 100000 in
theorem cons_data (x : UInt8) (t : ByteArray) : ((⟨#[x]⟩ : ByteArray) ++ t).data.toList = x :: t.data.toList := by
  rw [ByteArray.data_append]; simp

set_option maxRecDepth 100000 in
theorem best_step (row ab : List UInt8) (k : Nat) : Fb.bestTo row ab (k + 1) = if (Fb.packL (Fb.tellL k row ab)).length < (Fb.packL (Fb.tellL (Fb.bestTo row ab k) row ab)).length ∧ k ≠ 0 then k else Fb.bestTo row ab k := rfl

set_option maxHeartbeats 2000000 in
set_option maxRecDepth 100000 in
theorem shortest_any (v u : Value) (row ab : List UInt8) (w : World) (hne : row ≠ []) (hlen : row.length ≤ 1000) (HR : Hid (RdB w v row)) (HA : Hid (RdB w u ab)) :
    Calls Tryz.prog 72 #[v, u] w fun e w' => e = .returned (str (Fb.shortL row ab)) ∧ Below w.heap.size w w' := by
  have HVS : Hid (∃ a c, v = .slice a row.length c) := by obtain ⟨a, c, h, _⟩ := HR.out; exact ⟨a, c, h⟩
  have HUS : Hid (∃ a c, u = .slice a ab.length c) := by obtain ⟨a, c, h, _⟩ := HA.out; exact ⟨a, c, h⟩
  go_enter Tryz.func72, Tryz.ntmps72
  go_wp2_with fail
  go_loopw [5, 6, 10] (fun x y i wr => ∃ (k f : Nat) (best : ByteArray), k ≤ 4 ∧ i = .int .i64 k ∧ x = .string best ∧ y = .int .i64 f ∧ f ≤ 100000 ∧ best.size ≤ 2000 ∧ Below w.heap.size w wr ∧ Hid (k = 0 → best = ⟨#[]⟩) ∧ Hid (0 < k → best.data.toList = UInt8.ofNat (Fb.bestTo row ab k) :: Fb.tellL (Fb.bestTo row ab k) row ab ∧ f = (Fb.packL (Fb.tellL (Fb.bestTo row ab k) row ab)).length)) (fun _ _ i _ => 4 - (intOf i).toNat)
  case atStart => exact ⟨0, 0, ⟨#[]⟩, by omega, rfl, rfl, rfl, by omega, by decide, Below.refl _ _, (fun _ => rfl), (fun h => by omega)⟩
  case round =>
    obtain ⟨k, f, best, hk, rfl, rfl, rfl, hf, hbs, hb, HK0, HK1⟩ := hrel
    by_cases hlt : k < 4
    · obtain ⟨t, HT⟩ := bytes_of (Fb.tellL k row ab)
      have hts : t.size ≤ 1000 := by rw [size_of HT]; unfold Fb.tellL; rw [Fb.tellTo_len]; omega
      obtain ⟨p, HP⟩ := bytes_of (Fb.packL t.data.toList)
      have hps : p.size ≤ 2000 := by rw [size_of HP]; have := Fb.packL_len t.data.toList; have h2 : t.data.toList.length = t.size := by simp
                                     omega
      have HPL : Hid ((Fb.packL (Fb.tellL k row ab)).length = p.size) := by unfold Hid; rw [size_of HP, HT.out]
      obtain ⟨nb, HNB⟩ : ∃ nb, Hid (UInt8.ofNat k = nb) := ⟨_, (rfl : _ = _)⟩
      have HNI : Hid ((nb.toNat : Int) = (k : Int)) := by unfold Hid; rw [← HNB.out, Fb.ofNat_toNat _ (by omega)]
      go_wp2_with fail
      refine (tell_at k hlt v u row ab _ hne hlen (HR.out.on hb) (HA.out.on hb) t HT).mono ?_
      rintro e w1 ⟨rfl, hb1⟩
      go_wp2_with fail
      refine (pack_len t _ (by omega) p HP).mono ?_
      rintro e w2 ⟨rfl, hb2⟩
      have hbb : Below w.heap.size w w2 := (hb.trans (hb1.mono hb.size)).trans (hb2.mono (Nat.le_trans hb.size hb1.size))
      have hcv := run_one1 (w2.alloc (.cells #[.int .u8 (k : Int)] 5)) w2.heap.size (k : Int) nb HNI (by simp)
      have HSZ : Hid (((⟨#[nb]⟩ : ByteArray) ++ t).size ≤ 2000) := by unfold Hid; rw [ByteArray.size_append]; show 1 + t.size ≤ 2000; omega
      have HDT : Hid (((⟨#[nb]⟩ : ByteArray) ++ t).data.toList = UInt8.ofNat k :: Fb.tellL k row ab) := by unfold Hid; rw [cons_data, HNB.out, HT.out]
      by_cases hk0 : k = 0
      · have hbe : best = ⟨#[]⟩ := HK0.out hk0
        subst hbe
        subst hk0
        have HB0 : Hid (Fb.bestTo row ab 1 = 0) := by unfold Hid; rw [best_step]; simp [Fb.bestTo]
        have hcv0 := run_one1 (w2.alloc (.cells #[.int .u8 0] 5)) w2.heap.size 0 nb HNI (by simp)
        clear hcv
        go_wp2_with fail
        go_roundw
        case rel => exact ⟨1, p.size, ⟨#[nb]⟩ ++ t, by omega, rfl, rfl, rfl, by omega, HSZ.out, hbb.alloc hbb.size _, (by unfold Hid; intro h; omega), (fun _ => by rw [HB0.out]; exact ⟨HDT.out, HPL.out.symm⟩)⟩
        case measure => simp [intOf]
      · have h1 := HK1.out (by omega)
        have hbn : ¬ best.toList = [] := by rw [Lib.toList_data, h1.1]; simp
        have hbn2 : best.toList.isEmpty = false := by simp [hbn]
        have hbn3 : (best.toList == []) = false := by simp [hbn]
        have hbn4 : decide (best.toList = []) = false := by simp [hbn]
        have hfe := h1.2
        by_cases hless : p.size < f
        · have HB : Hid (Fb.bestTo row ab (k + 1) = k) := by unfold Hid; rw [best_step, if_pos]; exact ⟨by rw [HPL.out, ← hfe]; exact hless, hk0⟩
          clear h1 hfe
          go_wp2_with fail
          go_roundw
          case rel => exact ⟨k + 1, p.size, ⟨#[nb]⟩ ++ t, by omega, by go_num, rfl, rfl, by omega, HSZ.out, hbb.alloc hbb.size _, (by unfold Hid; intro h; omega), (fun _ => by rw [HB.out]; exact ⟨HDT.out, HPL.out.symm⟩)⟩
          case measure => simp [intOf]; omega
        · have HB : Hid (Fb.bestTo row ab (k + 1) = Fb.bestTo row ab k) := by unfold Hid; rw [best_step, if_neg]; rw [HPL.out, ← hfe]; intro h; exact hless h.1
          clear h1 hfe
          go_wp2_with fail
          go_roundw
          case rel => exact ⟨k + 1, f, best, by omega, by go_num, rfl, rfl, hf, hbs, hbb, (by unfold Hid; intro h; omega), (fun _ => by rw [HB.out]; exact HK1.out (by omega))⟩
          case measure => simp [intOf]; omega
    · have hk4 : k = 4 := by omega
      subst hk4
      have h1 := HK1.out (by omega)
      have HE : Hid (str (Fb.shortL row ab) = .string best) := by unfold Hid Fb.shortL Fb.bestW; rw [← h1.1, str_self]
      clear h1
      go_wp2_with fail
      go_ret
      exact ⟨by rw [HE.out]; rfl, hb⟩
end Go.Proofs.YtceabiodelfdoaaGreatDoor
/- Walk of picture.Bytes. -/
namespace Go.Proofs.YtceabiodelfdoaaGreatDoor
open Go.RowKit

/-- the bytes of row j -/
def rowOf (ps : List (Int × Int)) (W j : Nat) : List UInt8 := flatP ((ps.drop (j * W)).take W)
def aboveOf (ps : List (Int × Int)) (W j : Nat) : List UInt8 := if j = 0 then [] else rowOf ps W (j - 1)
/-- what is told of the first k rows -/
def rowsTo (ps : List (Int × Int)) (W : Nat) : Nat → List UInt8
  | 0 => []
  | k + 1 => rowsTo ps W k ++ Fb.shortL (rowOf ps W k) (aboveOf ps W k)
def picBytes (W H : Nat) (ps : List (Int × Int)) : List UInt8 := UInt8.ofNat W :: UInt8.ofNat H :: Fb.packL (rowsTo ps W H)

set_option maxRecDepth 100000 in
theorem rowOf_len (ps : List (Int × Int)) (W H j : Nat) (hl : ps.length = W * H) (hj : j < H) : (rowOf ps W j).length = 2 * W := by
  unfold rowOf
  rw [flatP_len, List.length_take, List.length_drop, hl]
  have h1 : (j + 1) * W ≤ H * W := Nat.mul_le_mul_right W (by omega)
  have h2 : (j + 1) * W = j * W + W := by rw [Nat.add_mul, Nat.one_mul]
  have h3 : W * H = H * W := Nat.mul_comm _ _
  omega

set_option maxRecDepth 100000 in
theorem rowsTo_len (ps : List (Int × Int)) (W H : Nat) (hl : ps.length = W * H) : ∀ k, k ≤ H → (rowsTo ps W k).length = k * (1 + 2 * W)
  | 0, _ => by simp [rowsTo]
  | k + 1, hk => by
    have ih := rowsTo_len ps W H hl k (by omega)
    simp only [rowsTo, List.length_append, ih, Fb.shortL_len, rowOf_len ps W H k hl (by omega)]
    rw [Nat.add_mul]; omega

set_option maxRecDepth 100000 in
/-- rows k of the pixels, as a slice -/
theorem rdP_cut {w : World} {g off n cap : Nat} {ps : List (Int × Int)} (h : RdP w (.slice (some ⟨g, off, none⟩) n cap) ps) (lo hi : Nat) (h1 : lo < hi) (h2 : hi ≤ n) :
    RdP w (.slice (some ⟨g, off + lo * 2, none⟩) (hi - lo) (cap - lo)) ((ps.drop lo).take (hi - lo)) := by
  obtain ⟨a, c, hv, hl, hc, hh⟩ := h
  simp only [Value.slice.injEq] at hv
  obtain ⟨rfl, rfl, rfl⟩ := hv
  have hlen : ((ps.drop lo).take (hi - lo)).length = hi - lo := by rw [List.length_take, List.length_drop]; omega
  refine ⟨_, _, by rw [hlen], by rw [hlen]; omega, by omega, fun _ => ?_⟩
  obtain ⟨g', off', ha, hg, hcell⟩ := hh (by intro e; rw [e] at h2; simp at h2; omega)
  simp only [Option.some.injEq, Addr.mk.injEq, and_true] at ha
  obtain ⟨rfl, rfl⟩ := ha
  refine ⟨g, off + lo * 2, rfl, hg, fun j hj => ?_⟩
  rw [hlen] at hj
  have := hcell (lo + j) (by omega)
  have e : ((ps.drop lo).take (hi - lo)).getD j (0, 0) = ps.getD (lo + j) (0, 0) := by
    rw [List.getD_eq_getElem?_getD, List.getElem?_take, if_pos hj, List.getElem?_drop, ← List.getD_eq_getElem?_getD]
  rw [e]
  rw [show off + (lo + j) * 2 = off + lo * 2 + j * 2 by omega] at this
  exact this

set_option maxRecDepth 100000 in
theorem shortest_at (v u : Value) (row ab : List UInt8) (w : World) (hne : row ≠ []) (hlen : row.length ≤ 1000) (HR : RdB w v row) (HA : RdB w u ab) (t : ByteArray) (HT : Hid (Fb.shortL row ab = t.data.toList)) :
    Calls Tryz.prog 72 #[v, u] w fun e w' => e = .returned (.string t) ∧ Below w.heap.size w w' := by
  have h := shortest_any v u row ab w hne hlen HR HA
  rw [HT.out, str_self] at h
  exact h

set_option maxRecDepth 100000 in
theorem run_pair2 (X : World) (B : Nat) (a b : Int) (x y : UInt8) (ha : Hid ((x.toNat : Int) = a)) (hb : Hid ((y.toNat : Int) = b)) (h0 : X.cell? ⟨B, 0, none⟩ = some (.int .u8 a)) (h1 : X.cell? ⟨B, 1, none⟩ = some (.int .u8 b)) :
    (convert 55 9 (.slice (some ⟨B, 0, none⟩) 2 2)).run Tryz.prog X = .ok (.string ⟨#[x, y]⟩) X := by
  refine run_convert_bytes_back _ 55 9 5 ⟨B, 0, none⟩ 2 [x, y] Tryz.underlying55 Tryz.underlying5 Tryz.underlying9 ?_
  intro j hj
  match j, hj with
  | 0, _ => rw [← ha.out] at h0; simpa [Addr.add] using h0
  | 1, _ => rw [← hb.out] at h1; simpa [Addr.add] using h1

set_option maxRecDepth 100000 in
theorem check_ok {W H : Int} {ps : List (Int × Int)} (h : checkL W H ps = 0) : 1 ≤ W ∧ W ≤ 8 ∧ 1 ≤ H ∧ H ≤ 8 ∧ (ps.length : Int) = W * H ∧ ∀ p ∈ ps, okPix p = true := by
  unfold checkL at h
  split at h
  · simp at h
  · rename_i h1
    split at h
    · simp at h
    · rename_i h2
      split at h
      · rename_i h3
        have hw : sideB W = true := by cases hh : sideB W with | true => rfl | false => exact absurd (.inl hh) h1
        have hh : sideB H = true := by cases hh : sideB H with | true => rfl | false => exact absurd (.inr hh) h1
        unfold sideB at hw hh
        simp at hw hh
        refine ⟨hw.1, hw.2, hh.1, hh.2, by omega, fun p hp => List.all_eq_true.1 h3 p hp⟩
      · simp at h

set_option maxRecDepth 100000 in
theorem pow_slice {w : World} {v : Value} {ps : List (Int × Int)} (h : RdP w v ps) : ∃ a c, v = .slice a ps.length c := by obtain ⟨a, c, hv, _⟩ := h; exact ⟨a, c, hv⟩

set_option maxHeartbeats 4000000 in
set_option maxRecDepth 100000 in
theorem picBytes_ok (W H : Nat) (v : Value) (ps : List (Int × Int)) (w : World) (HR : Hid (RdP w v ps)) (HC : Hid (checkL (W : Int) (H : Int) ps = 0)) :
    Calls Tryz.prog 55 #[.agg #[.int .i64 (W : Int), .int .i64 (H : Int), v]] w fun e w' => e = .returned (.tuple #[str (picBytes W H ps), .nilIface]) ∧ Below w.heap.size w w' := by
  obtain ⟨i0, hi, hz0, hz1, hz2⟩ := info_parts Tryz.infoByte
  obtain ⟨hW1, hW8, hH1, hH8, hlen, hall⟩ := check_ok HC.out
  have HALL : Hid (∀ p ∈ ps, okPix p = true) := hall
  have HLEN : Hid (ps.length = W * H) := by
    unfold Hid
    have h : ((W * H : Nat) : Int) = (W : Int) * (H : Int) := by simp
    omega
  clear hlen hall
  obtain ⟨n, HNN⟩ : ∃ n, Hid (ps.length = n) := ⟨_, (rfl : _ = _)⟩
  have hn64 : n ≤ 64 := by rw [← HNN.out, HLEN.out]; have := Nat.mul_le_mul (show W ≤ 8 by omega) (show H ≤ 8 by omega); omega
  have hnH : n = W * H := by rw [← HNN.out, HLEN.out]
  have HNH : Hid (n = W * H) := hnH
  have hpne : ps ≠ [] := by
    intro e; have h := HLEN.out; rw [e] at h
    have := Nat.mul_le_mul (show 1 ≤ W by omega) (show 1 ≤ H by omega)
    simp at h; omega
  obtain ⟨a, cap, hv, hlc, hcap, hh⟩ := HR.out
  obtain ⟨g, off, rfl, hg, hcell⟩ := hh hpne
  clear hcell hh hnH
  rw [HNN.out] at hv hlc
  subst hv
  have H3 := three_start w (.int .i64 (W : Int)) (.int .i64 (H : Int)) (.slice (some ⟨g, off, none⟩) n cap) 46
  obtain ⟨w0, HW0⟩ : ∃ w0, Hid (w.alloc (.cells #[.int .i64 (W : Int), .int .i64 (H : Int), .slice (some ⟨g, off, none⟩) n cap] 46) = w0) := ⟨_, (rfl : _ = _)⟩
  have hb0 : Below w.heap.size w w0 := by rw [← HW0.out]; exact (Below.refl _ _).alloc (Nat.le_refl _) _
  have HR0 : Hid (RdP w0 (.slice (some ⟨g, off, none⟩) n cap) ps) := HR.out.on hb0
  rw [HW0.out] at H3
  have H3H : Hid (Three w0 w.heap.size (.int .i64 (W : Int)) (.int .i64 (H : Int)) (.slice (some ⟨g, off, none⟩) n cap)) := H3
  clear H3
  go_enter Tryz.func55, Tryz.ntmps55
  go_wp2_with fail
  rw [HW0.out]
  refine (check_any (W : Int) (H : Int) (.slice (some ⟨g, off, none⟩) n cap) ps w0 (by rw [HNN.out]; omega) HR0 0 HC).mono ?_
  rintro e w1 ⟨rfl, hb1⟩
  rw [errV0]
  have H31 : Hid (Three w1 w.heap.size (.int .i64 (W : Int)) (.int .i64 (H : Int)) (.slice (some ⟨g, off, none⟩) n cap)) := H3H.out.on hb1
  have HR1 : Hid (RdP w1 (.slice (some ⟨g, off, none⟩) n cap) ps) := HR0.out.on hb1
  have hbw1 : Below w.heap.size w w1 := hb0.trans (hb1.mono hb0.size)
  have k1 := H31.out.c1
  go_wp2_with fail
  clear k1
  go_loopw [5, 6, 16] (fun x u i wr => ∃ (k : Nat) (rs : List UInt8), k ≤ H ∧ i = .int .i64 k ∧ Hid (wr.ownsRow w1.heap.size 5 1 x rs.length (rs.map bv)) ∧ Hid (RdB wr u (aboveOf ps W k)) ∧ Below w1.heap.size w1 wr ∧ rs.length ≤ 17 * k ∧ Hid (rowsTo ps W k = rs)) (fun _ _ i _ => H - (intOf i).toNat)
  case atStart => exact ⟨0, [], by omega, rfl, World.ownsRow_nil _ _ _ _, rdB_nil _, Below.refl _ _, by simp, rfl⟩
  case round =>
    obtain ⟨k, rs, hk, rfl, HOWN, HAB, hb, hrs, HK⟩ := hrel
    have HX := own_any HOWN.out
    have H3r := H31.out.on hb
    have k0 := H3r.c0
    have k1 := H3r.c1
    have k2 := H3r.c2
    by_cases hlt : k < H
    · obtain ⟨lo, HLO⟩ : ∃ lo, Hid (k * W = lo) := ⟨_, (rfl : _ = _)⟩
      obtain ⟨hi2, HHI⟩ : ∃ hi, Hid ((k + 1) * W = hi) := ⟨_, (rfl : _ = _)⟩
      have hlohi : hi2 = lo + W := by rw [← HLO.out, ← HHI.out, Nat.add_mul, Nat.one_mul]
      have hhin : hi2 ≤ n := by rw [← HHI.out, HNH.out, Nat.mul_comm W H]; exact Nat.mul_le_mul_right W (by omega)
      have hm1 : (k : Int) * (W : Int) = (lo : Int) := by rw [← HLO.out]; simp
      have hm2 : ((k : Int) + 1) * (W : Int) = (hi2 : Int) := by rw [← HHI.out]; simp
      have HHW : Hid (hi2 = lo + W) := hlohi
      have hlt2 : lo < hi2 := by omega
      have hWd : hi2 - lo ≤ 8 := by omega
      clear hlohi
      have HRC : Hid (RdP wr (.slice (some ⟨g, off + lo * 2, none⟩) (hi2 - lo) (cap - lo)) ((ps.drop lo).take (hi2 - lo))) := rdP_cut (HR1.out.on hb) lo hi2 hlt2 hhin
      obtain ⟨row, HROW⟩ : ∃ row, Hid (rowOf ps W k = row) := ⟨_, (rfl : _ = _)⟩
      have HPX : Hid (flatP ((ps.drop lo).take (hi2 - lo)) = row) := by
        unfold Hid; rw [← HROW.out]; unfold rowOf; rw [HLO.out, HHW.out, show lo + W - lo = W by omega]
      have HRL : Hid (row.length = 2 * W) := by unfold Hid; rw [← HROW.out]; exact rowOf_len ps W H k HLEN.out hlt
      have HRN : Hid (row ≠ []) := by unfold Hid; intro e; have h := HRL.out; rw [e] at h; simp at h; omega
      have HOK : Hid (∀ p ∈ (ps.drop lo).take (hi2 - lo), okPix p = true) := fun p hp => HALL.out p (List.mem_of_mem_drop (List.mem_of_mem_take hp))
      have HLC : Hid (((ps.drop lo).take (hi2 - lo)).length = hi2 - lo) := by unfold Hid; rw [List.length_take, List.length_drop, HNN.out]; omega
      obtain ⟨t, HT⟩ := bytes_of (Fb.shortL row (aboveOf ps W k))
      have HTS : Hid (t.size = 1 + 2 * W) := by unfold Hid; rw [size_of HT, Fb.shortL_len, HRL.out]
      have hts : t.size ≤ 17 := by rw [HTS.out]; omega
      have HN2 : Hid (rowsTo ps W (k + 1) = rs ++ t.data.toList) := by unfold Hid; rw [rowsTo, HK.out, HROW.out, HT.out]
      have HAN : Hid (aboveOf ps W (k + 1) = row) := by unfold Hid aboveOf; rw [if_neg (by omega)]; simpa using HROW.out
      go_wp2_with fail
      refine (flatten_any _ _ wr (by rw [HLC.out]; omega) HOK HRC (by intro e; have h := HLC.out; rw [e] at h; simp at h; omega)).mono ?_
      rintro e w2 ⟨vrow, rfl, hownr, hb2⟩
      rw [HPX.out] at hownr
      have HOR : Hid (w2.ownsRow wr.heap.size 5 1 vrow row.length (row.map bv)) := hownr
      clear hownr
      go_wp2_with fail
      refine (shortest_at vrow _ row (aboveOf ps W k) w2 HRN.out (by rw [HRL.out]; omega) (rdB_own HOR.out) (HAB.out.on hb2) t HT).mono ?_
      rintro e w3 ⟨rfl, hb3⟩
      have HO3 : Hid (w3.ownsRow w1.heap.size 5 1 _ rs.length (rs.map bv)) := own_on2 (own_on2 HOWN.out hb2) hb3
      have HOR3 : Hid (w3.ownsRow wr.heap.size 5 1 vrow row.length (row.map bv)) := own_on2 HOR.out hb3
      have hbw3 : Below w1.heap.size w1 w3 := (hb.trans (hb2.mono hb.size)).trans (hb3.mono (Nat.le_trans hb.size hb2.size))
      go_wp2_with (at_builtin; refine Lib.wpList_append_own_string _ rfl _ _ 55 9 rfl w1.heap.size 5 i0 Tryz.underlying55 Tryz.underlying9 hi hz0 hz1 hz2 _ _ _ rfl HO3.out t rfl ?c1 ?c2 ?c3 ?_)
      case c1 => unfold maxLen; omega
      case c2 => omega
      case c3 => exact hbw3.size
      · intro v' w4 hown' hgrow _
        have hb4 : Below w1.heap.size w1 w4 := below_str hbw3 HO3.out hgrow
        have HO4 : Hid (w4.ownsRow w1.heap.size 5 1 v' (rs ++ t.data.toList).length ((rs ++ t.data.toList).map bv)) := by
          unfold Hid
          have e1 : Lib.strCells t = t.data.toList.map bv := rfl
          have e2 : (rs ++ t.data.toList).length = rs.length + t.size := by simp
          rw [e2, List.map_append, ← e1]; exact hown'
        have HOR4 : Hid (RdB w4 vrow row) := rdB_own (own_apart HOWN.out HOR3.out hgrow)
        have HL4 : Hid ((rs ++ t.data.toList).length ≤ 17 * (k + 1)) := by
          unfold Hid
          have htl : t.data.toList.length = t.size := by simp
          rw [List.length_append, htl]; omega
        clear hown' hgrow
        go_wp2_with fail
        go_roundw
        case rel => exact ⟨k + 1, rs ++ t.data.toList, by omega, by go_num, HO4, by rw [HAN.out]; exact HOR4, hb4, HL4.out, HN2⟩
        case measure => simp [intOf]; omega
    · have hkH : k = H := by omega
      have HRS : Hid (rowsTo ps W H = rs) := by unfold Hid; rw [← hkH]; exact HK.out
      obtain ⟨p, HP⟩ := bytes_of (Fb.packL rs)
      obtain ⟨q, HQ⟩ := bytes_of rs
      have hqs : q.size ≤ 1000 := by rw [size_of HQ]; omega
      have hps : p.size ≤ 2000 := by rw [size_of HP]; have := Fb.packL_len rs; omega
      have hst := run_str (HOWN.out.drew)
      rw [HQ.out, str_self] at hst
      have HPK : Hid (∀ X, Calls Tryz.prog 73 #[.string q] X fun e w' => e = .returned (.string p) ∧ Below X.heap.size X w') := fun X => pack_len q X (by omega) p (by unfold Hid; rw [← HQ.out]; exact HP.out)
      clear hkH
      have hw1 : IntKind.u8.wrap (W : Int) = (W : Int) := by rw [IntKind.wrap_u8]; omega
      have hw2 : IntKind.u8.wrap (H : Int) = (H : Int) := by rw [IntKind.wrap_u8]; omega
      obtain ⟨xw, HXW⟩ : ∃ x, Hid (UInt8.ofNat W = x) := ⟨_, (rfl : _ = _)⟩
      obtain ⟨xh, HXH⟩ : ∃ x, Hid (UInt8.ofNat H = x) := ⟨_, (rfl : _ = _)⟩
      have HXI : Hid ((xw.toNat : Int) = (W : Int)) := by unfold Hid; rw [← HXW.out, Fb.ofNat_toNat _ (by omega)]
      have HYI : Hid ((xh.toNat : Int) = (H : Int)) := by unfold Hid; rw [← HXH.out, Fb.ofNat_toNat _ (by omega)]
      have hcv : ∀ (X : World) (B : Nat), X.cell? ⟨B, 0, none⟩ = some (.int .u8 (W : Int)) → X.cell? ⟨B, 1, none⟩ = some (.int .u8 (H : Int)) → (convert 55 9 (.slice (some ⟨B, 0, none⟩) 2 2)).run Tryz.prog X = .ok (.string ⟨#[xw, xh]⟩) X := fun X B => run_pair2 X B (W : Int) (H : Int) xw xh HXI HYI
      have HTA := H3r.drew
      have HTB := (H3r.alloc (.cells #[.int .u8 (W : Int), .int .u8 (H : Int)] 5)).drew
      have HDU := duo_start wr (.int .u8 (W : Int)) (.int .u8 (H : Int)) 5
      have hsB := run_str (HOWN.out.alloc (.cells #[.int .u8 (W : Int), .int .u8 (H : Int)] 5)).drew
      rw [HQ.out, str_self] at hsB
      have HFIN : Hid (str (picBytes W H ps) = .string (⟨#[xw, xh]⟩ ++ p)) := by
        unfold Hid picBytes
        rw [HRS.out, HXW.out, HXH.out, HP.out, ← str_self]
        rw [ByteArray.data_append]; simp
      have hsz2 : (⟨#[xw, xh]⟩ : ByteArray).size = 2 := rfl
      have hbwr : Below w.heap.size w wr := hbw1.trans (hb.mono hbw1.size)
      have hbA : Below w.heap.size w wr.drew := hbwr.drew
      have hsA : w.heap.size ≤ wr.drew.heap.size := hbwr.size
      have hbB : Below w.heap.size w (wr.alloc (.cells #[.int .u8 (W : Int), .int .u8 (H : Int)] 5)).drew := (hbwr.alloc hbwr.size _).drew
      have hsB2 : w.heap.size ≤ (wr.alloc (.cells #[.int .u8 (W : Int), .int .u8 (H : Int)] 5)).drew.heap.size := hbB.size
      go_upto_region 12 with fail
      go_cut [2, 3] from 4 (fun s2 s3 wc => s2 = .string (⟨#[xw, xh]⟩ ++ p) ∧ s3 = .nilIface ∧ Below w.heap.size w wc)
      case first =>
        go_region_with (go_at_call 73; refine (HPK.out _).mono ?_; rintro e w4 ⟨rfl, hb4⟩; (first | (have H34 := HTA.on hb4; have hbf := hbA.trans (hb4.mono hsA)) | (have H34 := HTB.on hb4; have hbf := hbB.trans (hb4.mono hsB2); have HD4 := HDU.on hb4; obtain ⟨e0, e1, _⟩ := HD4)); obtain ⟨q0, q1, q2, _, _, _, _⟩ := H34)
        all_goals (go_wp2_with fail; go_meet)
        all_goals first | exact ⟨rfl, rfl, hbf⟩ | exact ⟨rfl, rfl, hbf.alloc hbf.size _⟩
      case rest =>
        obtain ⟨rfl, rfl, hbc⟩ := hcut
        go_wp2_with fail
        go_ret2
        exact ⟨ret2 HFIN.out.symm rfl, hbc⟩
end Go.Proofs.YtceabiodelfdoaaGreatDoor
/- Rows of bytes: what is put behind them. -- s1 -/
namespace Go.Proofs.YtceabiodelfdoaaGreatDoor
open Go.RowKit

/-- a row of bytes that the call made -/
def OwnY (w : World) (B : Nat) (v : Value) (l : List UInt8) : Prop := w.ownsRow B 5 1 v l.length (l.map bv)
theorem ownY_nil (w : World) (B : Nat) : OwnY w B (.slice none 0 0) [] := World.ownsRow_nil _ _ _ _
theorem OwnY.on {w w' : World} {B : Nat} {v : Value} {l : List UInt8} (h : OwnY w B v l) (hb : Below w.heap.size w w') : OwnY w' B v l := own_on2 h hb
theorem OwnY.mono {w : World} {B B' : Nat} {v : Value} {l : List UInt8} (h : OwnY w B v l) (hB : B' ≤ B) : OwnY w B' v l := own_mono h hB
theorem OwnY.any {w : World} {B : Nat} {v : Value} {l : List UInt8} (h : OwnY w B v l) : ∃ a c, v = .slice a l.length c := own_any h
theorem byv_one (l : List UInt8) : ∀ u ∈ l.map bv, u.oneCell' = true := by
  intro u hu
  obtain ⟨b, _, rfl⟩ := List.mem_map.1 hu
  rfl
theorem strCells_bv (s : ByteArray) : Lib.strCells s = s.data.toList.map bv := rfl
theorem by_app {B : Nat} {X : World} {v : Value} {l : List UInt8} (h : OwnY X B v l) (bs : List UInt8) (m : Nat) (hm : bs.length = m) (hl : l.length + m ≤ 1000000000) (hB : B ≤ X.heap.size) :
    ∃ v' w', (Builtin.append_ #[55, 55] 55 #[v, .slice (some ⟨X.heap.size, 0, none⟩) m m]).run Tryz.prog (X.alloc (.cells (bs.map bv).toArray 5)) = .ok v' w' ∧ OwnY w' B v' (l ++ bs) ∧ Below B X w' ∧ (∀ {B' : Nat} {e : TypeId} {sz : Nat} {v0 : Value} {n0 : Nat} {xs : List Value}, e ≠ 5 → X.ownsRow B' e sz v0 n0 xs → w'.ownsRow B' e sz v0 n0 xs) := by
  obtain ⟨i0, hi, hz0, hz1, hz2⟩ := info_parts Tryz.infoByte
  subst hm
  have hx : Below X.heap.size X (X.alloc (.cells (bs.map bv).toArray 5)) := (Below.refl _ _).alloc (Nat.le_refl _) _
  have h1 := own_on2 h hx
  have hs : B ≤ (X.alloc (.cells (bs.map bv).toArray 5)).heap.size := by simp; omega
  obtain ⟨v', w', hrun, r1, r2, _, _⟩ := run_append_own_at (P := Tryz.prog) (X.alloc (.cells (bs.map bv).toArray 5)) B 55 55 5 i0 (.int .u8 0) 1 1 Tryz.underlying55 hi hz0 hz1 hz2 rfl (by decide) v l.length (l.map bv) h1 ⟨X.heap.size, 0, none⟩ bs.length bs.length (bs.map bv) (by simp) (fun j u hj => new_cells X _ _ j u hj) (byv_one bs) (by unfold maxLen; omega) (by omega) hs
  refine ⟨v', w', hrun, ?_, (hx.mono hB).grown r2 hs (fun z hz => (h1.lt z hz).1), fun hne h0 => ?_⟩
  · unfold OwnY
    rw [List.length_append, List.map_append]
    exact r1
  · have h2 := own_on2 h0 hx
    exact h2.kept r2 (apartO h2 h1 hne)
theorem st_app {B : Nat} {X : World} {v : Value} {l : List UInt8} (h : OwnY X B v l) (s : ByteArray) (hl : l.length + s.size ≤ 1000000000) (hB : B ≤ X.heap.size) :
    ∃ v' w', (Builtin.append_ #[55, 9] 55 #[v, .string s]).run Tryz.prog X = .ok v' w' ∧ OwnY w' B v' (l ++ s.data.toList) ∧ Below B X w' := by
  obtain ⟨i0, hi, hz0, hz1, hz2⟩ := info_parts Tryz.infoByte
  obtain ⟨v', w', hrun, r1, r2, _⟩ := Lib.run_append_own_string (P := Tryz.prog) (w := X) B 55 9 55 5 i0 Tryz.underlying55 Tryz.underlying9 hi hz0 hz1 hz2 v l.length (l.map bv) h s (by unfold maxLen; omega) (by omega) hB
  refine ⟨v', w', hrun, ?_, (Below.refl B X).grown r2 hB (fun z hz => (h.lt z hz).1)⟩
  unfold OwnY
  rw [List.length_append, List.map_append]
  have e : s.data.toList.length = s.size := by simp
  rw [e, ← strCells_bv]
  exact r1
theorem by_app2 {B : Nat} {X : World} {v : Value} {l : List UInt8} (h : OwnY X B v l) (bs : List UInt8) (m : Nat) (cs : Array Value) (g : Nat) (hcs : (bs.map bv).toArray = cs) (hg : X.heap.size = g) (hm : bs.length = m) (hl : l.length + m ≤ 1000000000) (hB : B ≤ X.heap.size) :
    ∃ v' w', (Builtin.append_ #[55, 55] 55 #[v, .slice (some ⟨g, 0, none⟩) m m]).run Tryz.prog (X.alloc (.cells cs 5)) = .ok v' w' ∧ OwnY w' B v' (l ++ bs) ∧ Below B X w' ∧ (∀ {B' : Nat} {e : TypeId} {sz : Nat} {v0 : Value} {n0 : Nat} {xs : List Value}, e ≠ 5 → X.ownsRow B' e sz v0 n0 xs → w'.ownsRow B' e sz v0 n0 xs) := by
  subst hcs hg
  exact by_app h bs m hm hl hB
theorem nums_own {w : World} {g B : Nat} (q : Pq) (h : w.heap[g]? = some (.cells #[.int .i64 q.a, .int .i64 q.b, .int .i64 q.c, .int .i64 q.d] 3 (0, 0))) (hB : B ≤ g) (n : Nat) (hn : n ≤ 4) : w.ownsRow B 3 1 (.slice (some ⟨g, 0, none⟩) n 4) n (intCells ((nums4 q).take n)) := by
  refine ⟨by simp [intCells, nums4]; omega, .inr ⟨g, 4, _, rfl, hB, h, hn, by unfold maxLen; omega, rfl, ?_⟩⟩
  rcases (show n = 0 ∨ n = 1 ∨ n = 2 ∨ n = 3 ∨ n = 4 by omega) with rfl | rfl | rfl | rfl | rfl <;> rfl
end Go.Proofs.YtceabiodelfdoaaGreatDoor
/- An op's bytes. -- s1 -/
namespace Go.Proofs.YtceabiodelfdoaaGreatDoor
open Go.RowKit

def idB (id : Int) (b : Bool) : List UInt8 := if b then [UInt8.ofNat id.toNat] else []
def nB (n : Int) : List UInt8 := [UInt8.ofNat ((n + 128) % 256).toNat, UInt8.ofNat ((n + 128) / 256).toNat]
def nsB (ns : List Int) : List UInt8 := ns.flatMap nB
def pcB (q : Pq) (b : Bool) : List UInt8 := if b then picBytes q.pw.toNat q.ph.toNat q.ps else []
/-- an op's bytes, of its kind's parts -/
def opB (q : Pq) (id : Bool) (nums : Nat) (pic : Bool) : List UInt8 := idB q.id id ++ nsB ((nums4 q).take nums) ++ pcB q pic
theorem idB_len (id : Int) (b : Bool) : (idB id b).length ≤ 1 := by unfold idB; split <;> simp
theorem nsB_len : ∀ (ns : List Int), (nsB ns).length = 2 * ns.length := by
  intro ns
  induction ns with
  | nil => rfl
  | cons a r ih =>
    have e : nsB (a :: r) = nB a ++ nsB r := rfl
    rw [e, List.length_append, ih]
    simp [nB]; omega
theorem nsB_snoc (ns : List Int) (n : Int) : nsB (ns ++ [n]) = nsB ns ++ nB n := by simp [nsB]
theorem take_nsB {ns : List Int} {k : Nat} (h : k < ns.length) {n : Int} (hn : ns.getD k 0 = n) : nsB (ns.take (k + 1)) = nsB (ns.take k) ++ nB n := by
  rw [List.take_succ_eq_append_getElem h, nsB_snoc]
  rw [List.getD_eq_getElem?_getD, List.getElem?_eq_getElem h] at hn
  rw [← hn]; rfl

/-- what an op that may be is -/
structure OpOk (q : Pq) (s : Shp) : Prop where
  id : s.id = true → 1 ≤ q.id ∧ q.id ≤ 6
  num : ∀ n ∈ (nums4 q).take s.nums, -20 ≤ n ∧ n ≤ 255
  pic : s.pic = true → checkL q.pw q.ph q.ps = 0
  non : ∀ n ∈ forL q s, n = 0
theorem shps_bounds : ∀ s ∈ shps, -20 ≤ s.low ∧ s.high ≤ 255 := by
  intro s hs
  simp only [shps, List.mem_cons, List.not_mem_nil, or_false] at hs
  rcases hs with rfl | rfl | rfl | rfl | rfl | rfl | rfl | rfl | rfl | rfl | rfl | rfl | rfl | rfl | rfl | rfl <;> exact ⟨by decide, by decide⟩
theorem opC_ok {q : Pq} {s : Shp} (h : opC q = 0) (hk : kindAt q.kind shps = some s) : OpOk q s := by
  unfold opC at h
  rw [hk] at h
  simp only at h
  split at h
  · omega
  rename_i h1
  split at h
  · omega
  rename_i h2
  have h1 : ¬ ∃ n ∈ forL q s, n ≠ 0 := by simpa using h1
  have h2a : ¬ (s.id && (decide (q.id < 1) || decide (6 < q.id))) = true := fun h => h2 (.inl h)
  have h2b : ¬ inB q s = false := fun h => h2 (.inr h)
  refine ⟨fun hi => ?_, fun n hn => ?_, fun hp => ?_, fun n hn => ?_⟩
  · rw [hi] at h2a
    simp at h2a
    omega
  · have hb := shps_bounds s (kindAt_mem _ _ _ hk).1
    unfold inB at h2b
    split at h2b
    · have hr : rectC q.a q.b q.c q.d = 0 := by simpa using h2b
      have hr := (rectC_zero _ _ _ _).1 hr
      have hn4 := List.mem_of_mem_take hn
      simp only [nums4, List.mem_cons, List.not_mem_nil, or_false] at hn4
      rcases hn4 with rfl | rfl | rfl | rfl <;> omega
    · have h3 : ¬ ∃ n ∈ (nums4 q).take s.nums, n < s.low ∨ s.high < n := by simpa using h2b
      have : ¬ (n < s.low ∨ s.high < n) := fun h => h3 ⟨n, hn, h⟩
      omega
  · rw [if_pos hp] at h
    exact h
  · by_cases h0 : n = 0
    · exact h0
    · exact absurd ⟨n, hn, h0⟩ h1
theorem opC_some {q : Pq} (h : opC q = 0) : ∃ s, kindAt q.kind shps = some s := by
  unfold opC at h
  split at h
  · omega
  · exact ⟨_, by assumption⟩
theorem u8_toNat (n : Nat) (h : n < 256) : (UInt8.ofNat n).toNat = n := by rw [UInt8.toNat_ofNat']; omega
theorem two_parts (x : Int) (h1 : -20 ≤ x) (h2 : x ≤ 255) : ∃ N n0 n1 : Nat, n0 < 256 ∧ n1 < 256 ∧ IntKind.i64.wrap (x + 128) = (N : Int) ∧ (N : Int) % 256 = (n0 : Int) ∧ wrap64 ((N : Int) / 256) = (n1 : Int) ∧ (n1 : Int) % 256 = (n1 : Int) ∧ nB x = [UInt8.ofNat n0, UInt8.ofNat n1] := by
  obtain ⟨N, hN⟩ : ∃ N : Nat, x + 128 = (N : Int) := ⟨(x + 128).toNat, by omega⟩
  have hN2 : N ≤ 383 := by omega
  refine ⟨N, N % 256, N / 256, by omega, by omega, ?_, by omega, ?_, by omega, ?_⟩
  · rw [hN, IntKind.wrap_i64]; omega
  · rw [show (N : Int) / 256 = ((N / 256 : Nat) : Int) by omega]; unfold wrap64; omega
  · unfold nB
    rw [hN, show ((N : Int) % 256).toNat = N % 256 by omega, show ((N : Int) / 256).toNat = N / 256 by omega]
end Go.Proofs.YtceabiodelfdoaaGreatDoor
/- Walks: the reference's SumOf, NameMay, ChunkBytes. -- s1 -/
namespace Go.Proofs.YtceabiodelfdoaaGreatDoor
open Go.RowKit

end Go.Proofs.YtceabiodelfdoaaGreatDoor
/- Walks: the reference's ChunkBytes, ChunkFirst. -- s1 -/
namespace Go.Proofs.YtceabiodelfdoaaGreatDoor
open Go.RowKit

theorem ba_str (t : ByteArray) (l : List UInt8) (h : t.data.toList = l) : Value.string t = str l := by
  subst h; exact (str_self t).symm
end Go.Proofs.YtceabiodelfdoaaGreatDoor
/- Walk: the reference's ChunkFirst. -- s1 -/
namespace Go.Proofs.YtceabiodelfdoaaGreatDoor
open Go.RowKit

/-- what the reference reads of the first chunk -/
def firstR (l : List UInt8) : Value := .tuple #[str (Fb.firstL l).1, str (Fb.firstL l).2.1, str (Fb.firstL l).2.2.1, .int .i64 ((Fb.firstL l).2.2.2 : Nat)]
theorem first_err {l : List UInt8} {c : Nat} (h : Fb.measureL l = (0, c)) (hc : c ≠ 0) : Fb.firstL l = ([], [], [], c) := by
  unfold Fb.firstL; rw [h]; rw [if_neg hc]
theorem first_ok {l : List UInt8} {m : Nat} (h : Fb.measureL l = (m, 0)) : Fb.firstL l = (l.take 4, ((l.take m).drop 6).take (m - 8), l.drop m, 0) := by
  unfold Fb.firstL; rw [h]; rw [if_pos rfl]
end Go.Proofs.YtceabiodelfdoaaGreatDoor
/- Walks: the reference's parts of an op, and its fault. -/
namespace Go.Proofs.YtceabiodelfdoaaGreatDoor
open Go.RowKit
set_option linter.unusedSimpArgs false

/-- what kind of op: has it an ID, how many numbers, a picture; the bounds -/
def rowR (k : Int) : Bool × Nat × Bool × List Int × List Int :=
  if k = 1 then (false, 2, false, [1, 1, 0, 0], [8, 8, 0, 0])
  else if k = 2 then (true, 0, true, [0, 0, 0, 0], [0, 0, 0, 0])
  else if k = 3 then (true, 2, false, [-20, -20, 0, 0], [20, 20, 0, 0])
  else if k = 4 then (true, 4, false, [-20, -20, 0, 0], [20, 20, 20, 20])
  else if k = 5 then (true, 1, false, [0, 0, 0, 0], [1, 0, 0, 0])
  else if k = 6 then (true, 1, false, [1, 0, 0, 0], [6, 0, 0, 0])
  else if k = 7 then (true, 0, false, [0, 0, 0, 0], [0, 0, 0, 0])
  else if k = 8 then (true, 2, true, [-20, -20, 0, 0], [20, 20, 0, 0])
  else if k = 9 then (true, 2, true, [-20, -20, 0, 0], [20, 20, 0, 0])
  else if k = 10 then (false, 2, false, [0, 0, 0, 0], [255, 255, 0, 0])
  else if k = 11 then (false, 1, false, [0, 0, 0, 0], [99, 0, 0, 0])
  else if k = 12 then (false, 1, false, [0, 0, 0, 0], [9, 0, 0, 0])
  else if k = 13 then (false, 0, false, [0, 0, 0, 0], [0, 0, 0, 0])
  else if k = 14 then (false, 0, false, [0, 0, 0, 0], [0, 0, 0, 0])
  else if k = 15 then (false, 0, false, [0, 0, 0, 0], [0, 0, 0, 0])
  else if k = 16 then (false, 0, false, [0, 0, 0, 0], [0, 0, 0, 0])
  else (false, 0, false, [0, 0, 0, 0], [0, 0, 0, 0])
def numR (q : Pq) : List Int := [q.a, q.b, q.c, q.d]
def rfC (q : Pq) : Nat :=
  if q.kind < 1 ∨ 16 < q.kind then 3
  else if ((numR q).drop (rowR q.kind).2.1).any (fun n => n != 0) then 3
  else if (!(rowR q.kind).1 && q.id != 0) || (!(rowR q.kind).2.2.1 && (q.pw != 0 || q.ph != 0 || decide (0 < q.ps.length))) then 3
  else if (rowR q.kind).1 && (decide (q.id < 1) || decide (6 < q.id)) then 1
  else if (((numR q).zip ((rowR q.kind).2.2.2.1.zip (rowR q.kind).2.2.2.2)).take (rowR q.kind).2.1).any (fun x => decide (x.1 < x.2.1) || decide (x.2.2 < x.1)) then 1
  else if (rowR q.kind).2.2.1 then checkL q.pw q.ph q.ps else 0
/-- what the reference's OpFault answers -/
def OpfP (q : Pq) (w : World) (e : Ending) (w' : World) : Prop := e = .returned (.int .i64 (rfC q : Nat)) ∧ Below w.heap.size w w'
end Go.Proofs.YtceabiodelfdoaaGreatDoor
/- Walk: the reference's fault of an op, kinds 1 to 3. -/
namespace Go.Proofs.YtceabiodelfdoaaGreatDoor
open Go.RowKit
set_option linter.unusedSimpArgs false

end Go.Proofs.YtceabiodelfdoaaGreatDoor
/- Walk: the reference's fault of an op, kinds 4 to 6. -/
namespace Go.Proofs.YtceabiodelfdoaaGreatDoor
open Go.RowKit
set_option linter.unusedSimpArgs false

end Go.Proofs.YtceabiodelfdoaaGreatDoor
/- Walk: the reference's fault of an op, kinds 7 to 9. -/
namespace Go.Proofs.YtceabiodelfdoaaGreatDoor
open Go.RowKit
set_option linter.unusedSimpArgs false

end Go.Proofs.YtceabiodelfdoaaGreatDoor
/- Walk: the reference's fault of an op, kinds 10 to 12. -/
namespace Go.Proofs.YtceabiodelfdoaaGreatDoor
open Go.RowKit
set_option linter.unusedSimpArgs false

end Go.Proofs.YtceabiodelfdoaaGreatDoor
/- Walk: the reference's fault of an op, kinds 13 to 16. -/
namespace Go.Proofs.YtceabiodelfdoaaGreatDoor
open Go.RowKit
set_option linter.unusedSimpArgs false

end Go.Proofs.YtceabiodelfdoaaGreatDoor
/- Walk: the reference's fault of an op. -/
namespace Go.Proofs.YtceabiodelfdoaaGreatDoor
open Go.RowKit

end Go.Proofs.YtceabiodelfdoaaGreatDoor
/- The reference's and the program's numbers of an op's error are the same. -- s1 -/
namespace Go.Proofs.YtceabiodelfdoaaGreatDoor
open Go.RowKit

set_option maxRecDepth 100000 in
set_option maxHeartbeats 8000000 in
theorem rf_eq (q : Pq) : rfC q = opC q := by
  obtain ⟨kd, id, a, b, c, d, pw, ph, ps⟩ := q
  by_cases hk : kd < 1 ∨ 16 < kd
  · have h1 : kindAt kd shps = none := by
      simp only [shps, kindAt]
      repeat (rw [if_neg (by simp; omega)])
    unfold rfC opC
    simp only [if_pos hk, h1]
  have hk2 : kd = 1 ∨ kd = 2 ∨ kd = 3 ∨ kd = 4 ∨ kd = 5 ∨ kd = 6 ∨ kd = 7 ∨ kd = 8 ∨ kd = 9 ∨ kd = 10 ∨ kd = 11 ∨ kd = 12 ∨ kd = 13 ∨ kd = 14 ∨ kd = 15 ∨ kd = 16 := by omega
  clear hk
  unfold rfC opC forL inB
  dsimp only [numR, nums4]
  generalize checkL pw ph ps = x
  generalize ps.length = n
  rcases hk2 with rfl | rfl | rfl | rfl | rfl | rfl | rfl | rfl | rfl | rfl | rfl | rfl | rfl | rfl | rfl | rfl
  all_goals
    simp [rowR, kindAt, shps, rectC_zero]
  all_goals
    repeat' split
  all_goals first | rfl | omega | (exfalso; omega)
end Go.Proofs.YtceabiodelfdoaaGreatDoor
/- The reference's table of names. -- s1 -/
namespace Go.Proofs.YtceabiodelfdoaaGreatDoor
open Go.ChangeShapes Go.WideShapes Go.ChangeAt Go.RowKit Go.Joins Go.Deep Go.Lib

/-- the names, no kind's first -/
def nmsB : List (List UInt8) := [] :: shps.map Shp.name
theorem nmsB_len : nmsB.length = 17 := rfl
theorem Tryz.cellsStr : Tryz.prog.cellsOf 9 = 1 := by kernel_rfl
theorem laid_tail {P : Program} {W : World} {x : String × DataW Unit} {rest : List (String × DataW Unit)} (h : laidMet P (x :: rest) W) : laidMet P rest W := by
  obtain ⟨ps, ⟨g', t', cs, fuel, p, q, _, _, _, _, hq, rfl⟩, hn, hh⟩ := h
  exact ⟨q, hq, (List.nodup_append.1 hn).2.1, fun b off hm => hh b off (by simp [hm])⟩

end Go.Proofs.YtceabiodelfdoaaGreatDoor
/- The reference's parts of a kind, by the table of shapes. -- s1 -/
namespace Go.Proofs.YtceabiodelfdoaaGreatDoor
open Go.RowKit

theorem name_kind (kd : Int) (s : Shp) (h : kindAt kd shps = some s) : ∃ k : Nat, kd = (k : Int) ∧ 1 ≤ k ∧ k ≤ 16 ∧ nmsB[k]? = some s.name := by
  obtain ⟨hm, hk⟩ := kindAt_mem _ _ _ h
  subst hk
  clear h
  refine ⟨s.kind, rfl, ?_⟩
  simp only [shps, List.mem_cons, List.not_mem_nil, or_false] at hm
  rcases hm with rfl | rfl | rfl | rfl | rfl | rfl | rfl | rfl | rfl | rfl | rfl | rfl | rfl | rfl | rfl | rfl <;> exact ⟨by decide, by decide, rfl⟩
end Go.Proofs.YtceabiodelfdoaaGreatDoor
/- Walks of the reference's byteAt and guess. -/
namespace Go.Proofs.YtceabiodelfdoaaGreatDoor
open Go.RowKit

def guessN (way l u : Nat) : Nat := if way = 1 then l else if way = 2 then u else if way = 3 then (l + u) / 2 else 0

set_option maxRecDepth 100000 in
theorem pixOf_getD : ∀ (l : List UInt8) (j : Nat), 2 * j + 1 < l.length → (pixOf l).getD j (0, 0) = (((l.getD (2 * j) 0).toNat : Int), ((l.getD (2 * j + 1) 0).toNat : Int))
  | [], j, h => by simp at h
  | [_], j, h => by simp at h
  | a :: b :: r, 0, h => by simp [pixOf]
  | a :: b :: r, j + 1, h => by
    have := pixOf_getD r j (by simp at h; omega)
    rw [pixOf, List.getD_cons_succ, this, show 2 * (j + 1) = 2 * j + 1 + 1 by omega, List.getD_cons_succ, List.getD_cons_succ, List.getD_cons_succ, List.getD_cons_succ]

set_option maxRecDepth 100000 in
theorem pixOf_length (l : List UInt8) : (pixOf l).length = l.length / 2 := by
  match l with
  | [] => rfl
  | [_] => simp [pixOf]
  | a :: b :: r =>
    have := pixOf_length r
    simp [pixOf, this]; omega

end Go.Proofs.YtceabiodelfdoaaGreatDoor
/- Lemmas for the reference's PictureBytes and PictureOf: the bytes row by row. -/
namespace Go.Proofs.YtceabiodelfdoaaGreatDoor
open Go.RowKit

def leftG (bs : List UInt8) (L y i : Nat) : UInt8 := if i < 2 then 0 else bs.getD (y * L + (i - 2)) 0
def upG (bs : List UInt8) (L y i : Nat) : UInt8 := if y = 0 then 0 else bs.getD ((y - 1) * L + i) 0
def rowG (bs : List UInt8) (L y : Nat) : List UInt8 := (bs.drop (y * L)).take L
def abG (bs : List UInt8) (L y : Nat) : List UInt8 := if y = 0 then [] else rowG bs L (y - 1)

set_option maxRecDepth 100000 in
theorem rowG_getD (bs : List UInt8) (L y i : Nat) (h : i < L) : (rowG bs L y).getD i 0 = bs.getD (y * L + i) 0 := by
  unfold rowG
  rw [Fb.getD_take _ _ _ h, List.getD_eq_getElem?_getD, List.getElem?_drop, ← List.getD_eq_getElem?_getD]
set_option maxRecDepth 100000 in
theorem abG_getD (bs : List UInt8) (L y i : Nat) (h : i < L) : (abG bs L y).getD i 0 = upG bs L y i := by
  unfold abG upG
  by_cases h0 : y = 0
  · rw [if_pos h0, if_pos h0]; simp
  · rw [if_neg h0, if_neg h0, rowG_getD _ _ _ _ h]
set_option maxRecDepth 100000 in
theorem left_row (bs : List UInt8) (L y i : Nat) (h : i < L) : Fb.leftB (rowG bs L y) i = leftG bs L y i := by
  unfold Fb.leftB leftG
  by_cases h0 : i < 2
  · rw [if_pos h0, if_pos h0]
  · rw [if_neg h0, if_neg h0, rowG_getD _ _ _ _ (by omega)]

set_option maxRecDepth 100000 in
/-- the guess, out of the two bytes -/
theorem guess_byte (way : Nat) (a b : UInt8) (x : UInt8) (h : x = if way = 1 then a else if way = 2 then b else if way = 3 then UInt8.ofNat ((a.toNat + b.toNat) / 2) else 0) : guessN way a.toNat b.toNat = x.toNat := by
  subst h
  unfold guessN
  have h1 := a.toNat_lt
  have h2 := b.toNat_lt
  split
  · rfl
  · split
    · rfl
    · split
      · rw [UInt8.toNat_ofNat']; omega
      · rfl
set_option maxRecDepth 100000 in
theorem guess_row (way : Nat) (bs : List UInt8) (L y i : Nat) (h : i < L) : guessN way (leftG bs L y i).toNat (upG bs L y i).toNat = (Fb.guessB way (rowG bs L y) (abG bs L y) i).toNat := by
  refine guess_byte way _ _ _ ?_
  unfold Fb.guessB
  rw [left_row _ _ _ _ h, abG_getD _ _ _ _ h]

set_option maxRecDepth 100000 in
theorem in_len (W H y i n : Nat) (hn : n = H * (2 * W)) (hy : y < H) (hi : i < 2 * W) : y * (2 * W) + (i / 2) * 2 + 1 < n := by
  have h1 : (y + 1) * (2 * W) ≤ H * (2 * W) := Nat.mul_le_mul_right _ (by omega)
  rw [Nat.add_mul, Nat.one_mul] at h1
  omega

set_option maxRecDepth 100000 in
/-- a byte told -/
theorem told_byte (x g : UInt8) (c q : Nat) (hc : x.toNat = c) (hq : g.toNat = q) : ((x - g).toNat : Int) = ((c : Int) - (q : Int) + 512) % 256 := by
  have h1 := x.toNat_lt
  have h2 := g.toNat_lt
  rw [UInt8.toNat_sub]
  omega
set_option maxRecDepth 100000 in
/-- a byte read -/
theorem read_byte (x g : UInt8) (c q : Nat) (hc : x.toNat = c) (hq : g.toNat = q) : (x + g).toNat = (c + q) % 256 := by
  rw [UInt8.toNat_add]; omega
end Go.Proofs.YtceabiodelfdoaaGreatDoor
/- Walks of the reference's Unpacked and Packed, and of the law's same. -/
namespace Go.Proofs.YtceabiodelfdoaaGreatDoor
open Go.RowKit

end Go.Proofs.YtceabiodelfdoaaGreatDoor
/- Walks of the reference's Packed and of the law's same. -/
namespace Go.Proofs.YtceabiodelfdoaaGreatDoor
open Go.RowKit

end Go.Proofs.YtceabiodelfdoaaGreatDoor
/- Walk of the reference's PictureBytes. -/
namespace Go.Proofs.YtceabiodelfdoaaGreatDoor
open Go.RowKit

/-- what is told of the first k rows, out of the bytes -/
def rowsG (bs : List UInt8) (L : Nat) : Nat → List UInt8
  | 0 => []
  | k + 1 => rowsG bs L k ++ Fb.shortL (rowG bs L k) (abG bs L k)

set_option maxRecDepth 100000 in
theorem guessN_le (way l u : Nat) (hl : l ≤ 255) (hu : u ≤ 255) : guessN way l u ≤ 255 := by
  unfold guessN
  split
  · exact hl
  · split
    · exact hu
    · split <;> omega

/-- what holds at each call: the picture reads, and what lay there lies there -/
def Gd (w : World) (v : Value) (ps : List (Int × Int)) (w' : World) : Prop := RdP w' v ps ∧ Below w.heap.size w w'
set_option maxRecDepth 100000 in
theorem Gd.on {w : World} {v : Value} {ps : List (Int × Int)} {w1 w2 : World} (h : Gd w v ps w1) (hb : Below w1.heap.size w1 w2) : Gd w v ps w2 := ⟨h.1.on hb, h.2.trans (hb.mono h.2.size)⟩

set_option maxRecDepth 100000 in
theorem Gd.drew {w : World} {v : Value} {ps : List (Int × Int)} {w1 : World} (h : Gd w v ps w1) : Gd w v ps w1.drew := ⟨h.1, h.2.drew⟩

set_option maxRecDepth 100000 in
theorem ext_drop1 (s : ByteArray) : (s.extract 1 s.size).data.toList = s.data.toList.drop 1 := by
  rw [ByteArray.data_extract, Array.toList_extract, List.extract_eq_take_drop, List.take_of_length_le (by simp)]
set_option maxRecDepth 100000 in
theorem Gd.drewN {w : World} {v : Value} {ps : List (Int × Int)} {w1 : World} (h : Gd w v ps w1) (q : Nat) : Gd w v ps (w1.drewN q) := ⟨h.1, below_drewN h.2 q⟩
set_option maxRecDepth 100000 in
theorem Three.drewN2 {W : World} {b : Nat} {x y z : Value} (h : Three W b x y z) (q : Nat) : Three (W.drewN q) b x y z := ⟨h.c0, h.c1, h.c2, h.f0, h.f1, h.f2, h.lt⟩

set_option maxRecDepth 100000 in
theorem run_pairG (X : World) (B : Nat) (a b : Int) (x y : UInt8) (ha : Hid ((x.toNat : Int) = a)) (hb : Hid ((y.toNat : Int) = b)) (h0 : X.cell? ⟨B, 0, none⟩ = some (.int .u8 a)) (h1 : X.cell? ⟨B, 1, none⟩ = some (.int .u8 b)) :
    (convert 55 9 (.slice (some ⟨B, 0, none⟩) 2 2)).run Tryz.prog X = .ok (.string ⟨#[x, y]⟩) X := by
  refine run_convert_bytes_back _ 55 9 5 ⟨B, 0, none⟩ 2 [x, y] Tryz.underlying55 Tryz.underlying5 Tryz.underlying9 ?_
  intro j hj
  match j, hj with
  | 0, _ => rw [← ha.out] at h0; simpa [Addr.add] using h0
  | 1, _ => rw [← hb.out] at h1; simpa [Addr.add] using h1

def bestIs (row ab : List UInt8) (m : Nat) (b : ByteArray) : Prop := m ≠ 0 → b.data.toList = UInt8.ofNat (Fb.bestTo row ab m) :: Fb.tellL (Fb.bestTo row ab m) row ab

end Go.Proofs.YtceabiodelfdoaaGreatDoor
/- What Bytes tells, Parse reads. -/
namespace Go.Proofs.YtceabiodelfdoaaGreatDoor
open Go.RowKit

set_option maxRecDepth 100000 in
theorem ofNat_small (n : Nat) (h : n < 256) : (UInt8.ofNat n).toNat = n := by rw [UInt8.toNat_ofNat']; omega

set_option maxRecDepth 100000 in
theorem okPix_bounds {p : Int × Int} (h : okPix p = true) : 0 ≤ p.1 ∧ p.1 ≤ 255 ∧ 0 ≤ p.2 ∧ p.2 ≤ 255 := by
  unfold okPix shadeB at h; simp at h; omega

set_option maxRecDepth 100000 in
theorem pixOf_flatP : ∀ (ps : List (Int × Int)), (∀ p ∈ ps, okPix p = true) → pixOf (flatP ps) = ps
  | [], _ => rfl
  | (v, a) :: r, h => by
    have hb := okPix_bounds (h (v, a) (by simp))
    simp only at hb
    rw [flatP, pixOf, pixOf_flatP r (fun p hp => h p (by simp [hp])), ofNat_small _ (by omega), ofNat_small _ (by omega)]
    rw [show ((v.toNat : Nat) : Int) = v by omega, show ((a.toNat : Nat) : Int) = a by omega]

set_option maxRecDepth 100000 in
theorem rowsTo_split (ps : List (Int × Int)) (W k : Nat) : ∀ d, ∃ tail, rowsTo ps W (k + 1 + d) = rowsTo ps W k ++ (Fb.shortL (rowOf ps W k) (aboveOf ps W k) ++ tail)
  | 0 => ⟨[], by simp [rowsTo]⟩
  | d + 1 => by
    obtain ⟨t, ht⟩ := rowsTo_split ps W k d
    refine ⟨t ++ Fb.shortL (rowOf ps W (k + 1 + d)) (aboveOf ps W (k + 1 + d)), ?_⟩
    rw [show k + 1 + (d + 1) = (k + 1 + d) + 1 by omega, rowsTo, ht]
    simp

set_option maxRecDepth 100000 in
theorem getD_mid (a b : List UInt8) (x : UInt8) : (a ++ (x :: b)).getD a.length 0 = x := by simp
set_option maxRecDepth 100000 in
theorem drop_mid (a b : List UInt8) (x : UInt8) : (a ++ (x :: b)).drop (a.length + 1) = b := by
  rw [← List.drop_drop, List.drop_left]; rfl

set_option maxRecDepth 100000 in
theorem above_next (ps : List (Int × Int)) (W k : Nat) : aboveOf ps W (k + 1) = rowOf ps W k := by unfold aboveOf; simp

set_option maxRecDepth 100000 in
theorem parse_rows (ps : List (Int × Int)) (W H : Nat) (hl : ps.length = W * H) (hok : ∀ p ∈ ps, okPix p = true) :
    ∀ f k, k + f = H → parseRows (rowsTo ps W H) W f k (aboveOf ps W k) = ((ps.drop (k * W)).take (f * W), 0)
  | 0, k, _ => by simp [parseRows]
  | f + 1, k, h => by
    obtain ⟨tail, ht⟩ := rowsTo_split ps W k f
    rw [show k + 1 + f = H by omega] at ht
    have hlen := rowsTo_len ps W H hl k (by omega)
    have hrl := rowOf_len ps W H k hl (by omega)
    have hb := Fb.bestW_lt (rowOf ps W k) (aboveOf ps W k)
    have h1 : ((rowsTo ps W H).getD (k * (1 + 2 * W)) 0).toNat = Fb.bestW (rowOf ps W k) (aboveOf ps W k) := by
      rw [ht, ← hlen, Fb.shortL, List.cons_append, getD_mid, ofNat_small _ (by omega)]
    have h2 : ((rowsTo ps W H).drop (k * (1 + 2 * W) + 1)).take (2 * W) = Fb.tellL (Fb.bestW (rowOf ps W k) (aboveOf ps W k)) (rowOf ps W k) (aboveOf ps W k) := by
      rw [ht, ← hlen, Fb.shortL, List.cons_append, drop_mid]
      refine List.take_left' ?_
      unfold Fb.tellL; rw [Fb.tellTo_len, hrl]
    have ih := parse_rows ps W H hl hok f (k + 1) (by omega)
    rw [above_next] at ih
    rw [parseRows, h1, h2, Fb.restL_tellL, ih, if_neg (by omega), if_neg (by simp)]
    have hp : pixOf (rowOf ps W k) = (ps.drop (k * W)).take W := by
      unfold rowOf
      exact pixOf_flatP _ (fun p hp => hok p (List.mem_of_mem_drop (List.mem_of_mem_take hp)))
    rw [hp]
    refine Prod.ext ?_ rfl
    show (ps.drop (k * W)).take W ++ (ps.drop ((k + 1) * W)).take (f * W) = (ps.drop (k * W)).take ((f + 1) * W)
    rw [show (f + 1) * W = W + f * W by rw [Nat.add_mul]; omega, List.take_add, List.drop_drop, show (k + 1) * W = k * W + W by rw [Nat.add_mul]; omega]

set_option maxRecDepth 100000 in
theorem parse_picBytes (W H : Nat) (ps : List (Int × Int)) (h : checkL (W : Int) (H : Int) ps = 0) : parseL (picBytes W H ps) = (W, H, ps, 0) := by
  obtain ⟨hW1, hW8, hH1, hH8, hlen, hall⟩ := check_ok h
  have hl : ps.length = W * H := by
    have h : ((W * H : Nat) : Int) = (W : Int) * (H : Int) := by simp
    omega
  have hrl := rowsTo_len ps W H hl H (Nat.le_refl _)
  have hu : Fb.unpack (Fb.packL (rowsTo ps W H)) ((H * (1 + 2 * W) : Nat) : Int) = (rowsTo ps W H, 0) := by rw [← hrl]; exact Fb.unpack_packL _
  have hr : parseRows (rowsTo ps W H) W H 0 [] = (ps, 0) := by
    have := parse_rows ps W H hl hall H 0 (by omega)
    rw [show aboveOf ps W 0 = [] from rfl] at this
    rw [this, Nat.zero_mul, List.drop_zero, List.take_of_length_le (by rw [hl, Nat.mul_comm]; exact Nat.le_refl _)]
  have h0 : ((picBytes W H ps).getD 0 0).toNat = W := by show (UInt8.ofNat W).toNat = W; exact ofNat_small _ (by omega)
  have h1 : ((picBytes W H ps).getD 1 0).toNat = H := by show (UInt8.ofNat H).toNat = H; exact ofNat_small _ (by omega)
  have hd : (picBytes W H ps).drop 2 = Fb.packL (rowsTo ps W H) := rfl
  have hs : ¬ (sideB (W : Int) = false ∨ sideB (H : Int) = false) := by unfold sideB; simp; omega
  unfold parseL
  rw [if_neg (by simp [picBytes]), h0, h1, if_neg hs, hd, hu]
  simp only [hrl, hr]
  simp

set_option maxRecDepth 100000 in
theorem picBytes_len (W H : Nat) (ps : List (Int × Int)) (h : checkL (W : Int) (H : Int) ps = 0) : (picBytes W H ps).length ≤ 2 + 2 * (H * (1 + 2 * W)) := by
  obtain ⟨hW1, hW8, hH1, hH8, hlen, hall⟩ := check_ok h
  have hl : ps.length = W * H := by
    have h : ((W * H : Nat) : Int) = (W : Int) * (H : Int) := by simp
    omega
  have hrl := rowsTo_len ps W H hl H (Nat.le_refl _)
  have := Fb.packL_len (rowsTo ps W H)
  rw [hrl] at this
  unfold picBytes
  simp only [List.length_cons]
  omega
end Go.Proofs.YtceabiodelfdoaaGreatDoor
/- The reference's PictureBytes of whatever picture. -/
namespace Go.Proofs.YtceabiodelfdoaaGreatDoor
open Go.RowKit

set_option maxRecDepth 100000 in
theorem flatP_append (a b : List (Int × Int)) : flatP (a ++ b) = flatP a ++ flatP b := by
  induction a with
  | nil => rfl
  | cons p a ih => obtain ⟨n, d⟩ := p; simp [flatP, ih]
set_option maxRecDepth 100000 in
theorem flatP_drop : ∀ (k : Nat) (ps : List (Int × Int)), flatP (ps.drop k) = (flatP ps).drop (2 * k)
  | 0, _ => by simp
  | k + 1, [] => by simp [flatP]
  | k + 1, (v, a) :: r => by
    rw [List.drop_succ_cons, flatP_drop k r, flatP, show 2 * (k + 1) = 2 * k + 1 + 1 by omega, List.drop_succ_cons, List.drop_succ_cons]
set_option maxRecDepth 100000 in
theorem flatP_take : ∀ (k : Nat) (ps : List (Int × Int)), flatP (ps.take k) = (flatP ps).take (2 * k)
  | 0, _ => by simp [flatP]
  | k + 1, [] => by simp [flatP]
  | k + 1, (v, a) :: r => by
    rw [List.take_succ_cons, flatP, flatP_take k r, flatP, show 2 * (k + 1) = 2 * k + 1 + 1 by omega, List.take_succ_cons, List.take_succ_cons]

set_option maxRecDepth 100000 in
theorem rowOf_flat (ps : List (Int × Int)) (W k : Nat) : rowOf ps W k = rowG (flatP ps) (2 * W) k := by
  unfold rowOf rowG
  rw [flatP_take, flatP_drop, Nat.mul_left_comm]
set_option maxRecDepth 100000 in
theorem aboveOf_flat (ps : List (Int × Int)) (W k : Nat) : aboveOf ps W k = abG (flatP ps) (2 * W) k := by
  unfold aboveOf abG
  by_cases h : k = 0
  · rw [if_pos h, if_pos h]
  · rw [if_neg h, if_neg h, rowOf_flat]
set_option maxRecDepth 100000 in
theorem rowsTo_flat (ps : List (Int × Int)) (W : Nat) : ∀ k, rowsTo ps W k = rowsG (flatP ps) (2 * W) k
  | 0 => rfl
  | k + 1 => by rw [rowsTo, rowsG, rowsTo_flat ps W k, rowOf_flat, aboveOf_flat]

end Go.Proofs.YtceabiodelfdoaaGreatDoor
/- Walk of picture.Parse, from its head on. -/
namespace Go.Proofs.YtceabiodelfdoaaGreatDoor
open Go.RowKit

set_option maxHeartbeats 4000000 in
set_option maxRecDepth 100000 in
theorem parse_any (s : ByteArray) (w : World) (hs : s.size ≤ 1000000) (W' H' c : Nat) (ps : List (Int × Int)) (HC : Hid (parseL s.data.toList = (W', H', ps, c))) :
    Calls Tryz.prog 48 #[.string s] w fun e w' => ∃ v, e = .returned (.tuple #[.agg #[.int .i64 (W' : Int), .int .i64 (H' : Int), v], errV c]) ∧ RdP w' v ps ∧ Below w.heap.size w w' := by
  have HL : Hid (s.data.toList.length = s.size) := by unfold Hid; simp
  have HT0 := three_start w (.int .i64 0) (.int .i64 0) (.slice none 0 0) 46
  by_cases h2 : s.size < 2
  · have hc := HC.out
    rw [parse_short _ (by rw [HL.out]; exact h2)] at hc
    simp only [Prod.mk.injEq] at hc
    obtain ⟨rfl, rfl, rfl, rfl⟩ := hc
    go_enter Tryz.func48, Tryz.ntmps48
    go_wp2_with fail
    exact bodyPost_ret (v := .tuple #[.agg #[.int .i64 0, .int .i64 0, .slice none 0 0], .iface 62 (.int .i64 4)]) (by simp [results, Tryz.results48, go_sem]) rfl ⟨_, rfl, rdP_nil _, (Below.refl _ _).alloc (Nat.le_refl _) _⟩
  · obtain ⟨x0, HX0⟩ : ∃ c, Hid (s.data.toList.getD 0 0 = c) := ⟨_, (rfl : _ = _)⟩
    obtain ⟨x1, HX1⟩ : ∃ c, Hid (s.data.toList.getD 1 0 = c) := ⟨_, (rfl : _ = _)⟩
    obtain ⟨W, HW⟩ : ∃ m, Hid (x0.toNat = m) := ⟨_, (rfl : _ = _)⟩
    obtain ⟨H, HH⟩ : ∃ m, Hid (x1.toNat = m) := ⟨_, (rfl : _ = _)⟩
    have hix0 := nat_at s 0 x0 HX0 W HW
    have hix1 := nat_at s 1 x1 HX1 H HH
    have hWb := byte_le x0 W HW
    have hHb := byte_le x1 H HH
    have h2' : 1 < s.size := by omega
    have h2'' : 0 < s.size := by omega
    have HWE : Hid ((s.data.toList.getD 0 0).toNat = W) := by unfold Hid; rw [HX0.out, HW.out]
    have HHE : Hid ((s.data.toList.getD 1 0).toNat = H) := by unfold Hid; rw [HX1.out, HH.out]
    have HL2 : Hid (¬ s.data.toList.length < 2) := by unfold Hid; rw [HL.out]; exact h2
    go_enter Tryz.func48, Tryz.ntmps48
    go_upto_region 3 with fail
    go_cut [4, 5] from 15 (fun s4 s5 wc => s4 = .int .i64 (W : Int) ∧ s5 = .int .i64 (H : Int) ∧ Three wc w.heap.size (.int .i64 0) (.int .i64 0) (.slice none 0 0) ∧ Below w.heap.size w wc)
    case first =>
      go_quiet (fail)
      go_wp2_with fail
      go_meet
      exact ⟨rfl, rfl, HT0.drewN _, below_drewN ((Below.refl _ _).alloc (Nat.le_refl _) _) _⟩
    case rest =>
      clear HT0 hix0 hix1
      obtain ⟨rfl, rfl, HT, hb⟩ := hcut
      cases hsw : sideB (W : Int) with
      | false =>
        have HSW : Hid (sideB (W : Int) = false) := hsw
        have hc := HC.out
        rw [parse_side _ W H HL2.out HWE.out HHE.out (.inl hsw)] at hc
        simp only [Prod.mk.injEq] at hc
        obtain ⟨rfl, rfl, rfl, rfl⟩ := hc
        clear hsw
        obtain ⟨t0, t1, t2, f0, f1, f2, tl⟩ := HT
        go_wp2_with fail
        refine (side_any _ _ false HSW).mono ?_
        rintro e w3 ⟨rfl, rfl⟩
        go_wp2_with fail
        exact bodyPost_ret (v := .tuple #[.agg #[.int .i64 0, .int .i64 0, .slice none 0 0], .iface 62 (.int .i64 1)]) (by simp [results, Tryz.results48, go_sem, t0, t1, t2]) rfl ⟨_, rfl, rdP_nil _, ((hb.setCell (Nat.le_refl _) _).setCell (Nat.le_refl _) _).setCell (Nat.le_refl _) _⟩
      | true =>
        have HSW : Hid (sideB (W : Int) = true) := hsw
        cases hsh : sideB (H : Int) with
        | false =>
          have HSH : Hid (sideB (H : Int) = false) := hsh
          have hc := HC.out
          rw [parse_side _ W H HL2.out HWE.out HHE.out (.inr hsh)] at hc
          simp only [Prod.mk.injEq] at hc
          obtain ⟨rfl, rfl, rfl, rfl⟩ := hc
          clear hsw hsh
          obtain ⟨t0, t1, t2, f0, f1, f2, tl⟩ := HT
          go_wp2_with fail
          refine (side_any _ _ true HSW).mono ?_
          rintro e w3 ⟨rfl, rfl⟩
          go_wp2_with fail
          refine (side_any _ _ false HSH).mono ?_
          rintro e w3 ⟨rfl, rfl⟩
          go_wp2_with fail
          exact bodyPost_ret (v := .tuple #[.agg #[.int .i64 0, .int .i64 0, .slice none 0 0], .iface 62 (.int .i64 1)]) (by simp [results, Tryz.results48, go_sem, t0, t1, t2]) rfl ⟨_, rfl, rdP_nil _, ((hb.setCell (Nat.le_refl _) _).setCell (Nat.le_refl _) _).setCell (Nat.le_refl _) _⟩
        | true =>
          have HSH : Hid (sideB (H : Int) = true) := hsh
          have hW1 : 1 ≤ (W : Int) ∧ (W : Int) ≤ 8 := by unfold sideB at hsw; simpa using hsw
          have hH1 : 1 ≤ (H : Int) ∧ (H : Int) ≤ 8 := by unfold sideB at hsh; simpa using hsh
          obtain ⟨hW1, hW8⟩ := hW1
          obtain ⟨hH1, hH8⟩ := hH1
          have HNS : Hid (¬ (sideB (W : Int) = false ∨ sideB (H : Int) = false)) := by unfold Hid; rw [hsw, hsh]; simp
          clear hsw hsh
          obtain ⟨L, HLN⟩ : ∃ L, Hid (1 + 2 * W = L) := ⟨_, (rfl : _ = _)⟩
          have hL1 : L ≤ 17 := by rw [← HLN.out]; omega
          have hL2 : 3 ≤ L := by rw [← HLN.out]; omega
          have hLI : 1 + 2 * (W : Int) = (L : Int) := by rw [← HLN.out]; simp
          obtain ⟨M, HM⟩ : ∃ M, Hid (H * L = M) := ⟨_, (rfl : _ = _)⟩
          have hM : M ≤ 136 := by rw [← HM.out]; have := Nat.mul_le_mul (show H ≤ 8 by omega) hL1; omega
          have hMI : (H : Int) * (L : Int) = (M : Int) := by rw [← HM.out]; simp
          obtain ⟨z, HZ⟩ : ∃ z, Hid (Fb.unpack (s.extract 2 s.size).data.toList (M : Int) = z) := ⟨_, (rfl : _ = _)⟩
          obtain ⟨us, uc⟩ := z
          have HU : Hid (Fb.unpack (s.data.toList.drop 2) ((H * (1 + 2 * W) : Nat) : Int) = (us, uc)) := by unfold Hid; rw [← ext_drop2, HLN.out, HM.out]; exact HZ.out
          have HB : Hid (parseL s.data.toList = if uc ≠ 0 then (0, 0, [], uc) else if us.length < M then (0, 0, [], 4) else if (parseRows us W H 0 []).2 ≠ 0 then (0, 0, [], (parseRows us W H 0 []).2) else (W, H, (parseRows us W H 0 []).1, 0)) := by
            unfold Hid; rw [parse_body _ W H HL2.out HWE.out HHE.out HNS.out us uc HU.out, HLN.out, HM.out]
          have hse : (s.extract 2 s.size).size ≤ 1000000 := by rw [ByteArray.size_extract]; omega
          obtain ⟨x, HX⟩ : ∃ t : ByteArray, Hid (us = t.data.toList) := ⟨⟨us.toArray⟩, by unfold Hid; simp⟩
          have HXS : Hid (x.size = us.length) := by unfold Hid; rw [HX.out]; simp
          go_wp2_with fail
          refine (side_any _ _ true HSW).mono ?_
          rintro e w3 ⟨rfl, rfl⟩
          go_wp2_with fail
          refine (side_any _ _ true HSH).mono ?_
          rintro e w3 ⟨rfl, rfl⟩
          by_cases huc : uc = 0
          · subst huc
            by_cases hshort : x.size < M
            · have hc := HC.out
              rw [HB.out, if_neg (by simp), if_pos (by rw [← HXS.out]; exact hshort)] at hc
              simp only [Prod.mk.injEq] at hc
              obtain ⟨rfl, rfl, rfl, rfl⟩ := hc
              go_wp2_with fail
              refine (unpack_at2 _ _ _ hse (by omega) (by omega) x _ us 0 HZ HX rfl).mono ?_
              rintro e w5 ⟨rfl, hb5⟩
              rw [show errV 0 = .nilIface from rfl]
              obtain ⟨t0, t1, t2, f0, f1, f2, tl⟩ := HT.on hb5
              go_wp2_with fail
              exact bodyPost_ret (v := .tuple #[.agg #[.int .i64 0, .int .i64 0, .slice none 0 0], .iface 62 (.int .i64 4)]) (by simp [results, Tryz.results48, go_sem, t0, t1, t2]) rfl ⟨_, rfl, rdP_nil _, (((hb.trans (hb5.mono hb.size)).setCell (Nat.le_refl _) _).setCell (Nat.le_refl _) _).setCell (Nat.le_refl _) _⟩
            · have HP : Hid ((W', H', ps, c) = if (parseRows us W H 0 []).2 ≠ 0 then (0, 0, [], (parseRows us W H 0 []).2) else (W, H, (parseRows us W H 0 []).1, 0)) := by
                unfold Hid; rw [← HC.out, HB.out, if_neg (by simp), if_neg (by rw [← HXS.out]; exact hshort)]
              go_wp2_with fail
              refine (unpack_at2 _ _ _ hse (by omega) (by omega) x _ us 0 HZ HX rfl).mono ?_
              rintro e w5 ⟨rfl, hb5⟩
              rw [show errV 0 = .nilIface from rfl]
              have HT5 := HT.on hb5
              have hbw5 : Below w.heap.size w w5 := hb.trans (hb5.mono hb.size)
              have HPB := three_start w5 (.int .i64 (W : Int)) (.int .i64 (H : Int)) (.slice none 0 0) 46
              have HRB := HT5.alloc (.cells #[.int .i64 (W : Int), .int .i64 (H : Int), .slice none 0 0] 46)
              obtain ⟨wp, HWP⟩ : ∃ wp, Hid (w5.alloc (.cells #[.int .i64 (W : Int), .int .i64 (H : Int), .slice none 0 0] 46) = wp) := ⟨_, (rfl : _ = _)⟩
              rw [HWP.out] at HPB HRB
              have hbwp : Below w.heap.size w wp := by rw [← HWP.out]; exact hbw5.alloc hbw5.size _
              have HPB' : Hid (Three wp w5.heap.size (.int .i64 (W : Int)) (.int .i64 (H : Int)) (.slice none 0 0)) := HPB
              have HRB' : Hid (Three wp w.heap.size (.int .i64 0) (.int .i64 0) (.slice none 0 0)) := HRB
              have hltp : w5.heap.size < wp.heap.size := HPB.lt
              have hltw : w.heap.size < w5.heap.size := HT5.lt
              clear HPB HRB HT5 HT
              go_wp2_with fail
              rw [HWP.out]
              go_loopw [10, 64] (fun u i wr => ∃ (k : Nat) (qs : List (Int × Int)) (ab : List UInt8) (xv : Value), k ≤ H ∧ i = .int .i64 k ∧ Hid (RdB wr u ab) ∧ Hid (Three wr w5.heap.size (.int .i64 (W : Int)) (.int .i64 (H : Int)) xv) ∧ Hid (wr.ownsRow wp.heap.size 52 2 xv qs.length (pixCells qs)) ∧ Hid (Three wr w.heap.size (.int .i64 0) (.int .i64 0) (.slice none 0 0)) ∧ Below w.heap.size w wr ∧ wp.heap.size ≤ wr.heap.size ∧ qs.length ≤ k * 8 ∧ Hid (parseRows us W H 0 [] = combP qs (parseRows us W (H - k) k ab))) (fun _ i _ => H - (intOf i).toNat)
              case atStart => exact ⟨0, [], [], .slice none 0 0, by omega, rfl, rdB_nil _, HPB', World.ownsRow_nil _ _ _ _, HRB', hbwp, Nat.le_refl _, by simp, (rows_nil _ _ _ _ _).symm⟩
              case round =>
                obtain ⟨k, qs, ab, xv, hk, rfl, HAB, H3P, HOQ, H3R, hbr, hwpr, hql, HK⟩ := hrel
                by_cases hlt : k < H
                · obtain ⟨lo, HLO⟩ : ∃ lo, Hid (k * L = lo) := ⟨_, (rfl : _ = _)⟩
                  obtain ⟨hi2, HHI⟩ : ∃ hi, Hid ((k + 1) * L = hi) := ⟨_, (rfl : _ = _)⟩
                  have hlohi : hi2 = lo + L := by rw [← HLO.out, ← HHI.out, Nat.add_mul, Nat.one_mul]
                  have hhin : hi2 ≤ M := by rw [← HHI.out, ← HM.out]; exact Nat.mul_le_mul_right L (by omega)
                  have hm1 : (k : Int) * (L : Int) = (lo : Int) := by rw [← HLO.out]; simp
                  have hm2 : ((k : Int) + 1) * (L : Int) = (hi2 : Int) := by rw [← HHI.out]; simp
                  have HHW : Hid (hi2 = lo + L) := hlohi
                  have hlt2 : lo + 1 < hi2 := by omega
                  have hlox : lo < x.size := by omega
                  have hhix : hi2 ≤ x.size := by omega
                  clear hlohi
                  obtain ⟨wb, HWB⟩ : ∃ c, Hid (x.data.toList.getD lo 0 = c) := ⟨_, (rfl : _ = _)⟩
                  obtain ⟨way, HWAY⟩ : ∃ m, Hid (wb.toNat = m) := ⟨_, (rfl : _ = _)⟩
                  have hixw := nat_at x lo wb HWB way HWAY
                  have hwyb := byte_le wb way HWAY
                  have HWE2 : Hid ((us.getD (k * (1 + 2 * W)) 0).toNat = way) := by unfold Hid; rw [HLN.out, HLO.out, HX.out, HWB.out, HWAY.out]
                  have hHk : H - k = (H - (k + 1)) + 1 := by omega
                  have HHK : Hid (H - k = (H - (k + 1)) + 1) := hHk
                  clear hHk
                  by_cases hw4 : 4 ≤ way
                  · have HPE : Hid (parseRows us W H 0 [] = ([], 4)) := by
                      unfold Hid; rw [HK.out, HHK.out, rows_err _ _ _ _ _ (by rw [HWE2.out]; exact hw4)]; rfl
                    have hc := HP.out
                    rw [HPE.out] at hc
                    simp at hc
                    obtain ⟨rfl, rfl, rfl, rfl⟩ := hc
                    obtain ⟨t0, t1, t2, f0, f1, f2, tl⟩ := H3R.out
                    go_wp2_with fail
                    go_quiet (fail)
                    go_wp2_with fail
                    exact bodyPost_ret (v := .tuple #[.agg #[.int .i64 0, .int .i64 0, .slice none 0 0], .iface 62 (.int .i64 4)]) (by simp [results, Tryz.results48, go_sem, t0, t1, t2]) rfl ⟨_, rfl, rdP_nil _, (((below_drewN hbr _).setCell (Nat.le_refl _) _).setCell (Nat.le_refl _) _).setCell (Nat.le_refl _) _⟩
                  · obtain ⟨t, HT2⟩ : ∃ t, Hid (x.extract (lo + 1) hi2 = t) := ⟨_, (rfl : _ = _)⟩
                    have HTS : Hid (t.size = 2 * W) := by unfold Hid; rw [← HT2.out, ByteArray.size_extract]; have h1 := HHW.out; have h2 := HLN.out; omega
                    have HTD : Hid (t.data.toList = (us.drop (k * (1 + 2 * W) + 1)).take (2 * W)) := by
                      unfold Hid
                      rw [← HT2.out, ByteArray.data_extract, Array.toList_extract, List.extract_eq_take_drop, ← HX.out, HLN.out, HLO.out]
                      rw [show hi2 - (lo + 1) = 2 * W by have h1 := HHW.out; have h2 := HLN.out; omega]
                    obtain ⟨row, HROW⟩ : ∃ row, Hid (Fb.restL way t.data.toList ab = row) := ⟨_, (rfl : _ = _)⟩
                    have HRLN : Hid (row.length = 2 * W) := by unfold Hid; rw [← HROW.out]; unfold Fb.restL; rw [Fb.restTo_len, ← HTS.out]; simp
                    have HN2 : Hid (parseRows us W H 0 [] = combP (qs ++ pixOf row) (parseRows us W (H - (k + 1)) (k + 1) row)) := by
                      unfold Hid
                      rw [HK.out, HHK.out, rows_step _ _ _ _ _ (by rw [HWE2.out]; exact hw4), combP_combP, HWE2.out, ← HTD.out, HROW.out]
                    go_wp2_with fail
                    go_quiet (fail)
                    go_wp2_with fail
                    rw [HT2.out]
                    obtain ⟨wq, HWQ⟩ : ∃ wq, Hid (wr.drewN nq = wq) := ⟨_, (rfl : _ = _)⟩
                    have hbq : Below wr.heap.size wr wq := by rw [← HWQ.out]; exact below_drewN (Below.refl _ _) _
                    have hbwq : Below w.heap.size w wq := by rw [← HWQ.out]; exact below_drewN hbr _
                    rw [HWQ.out]
                    have HPQ := H3P.out.on hbq
                    have HRQ := H3R.out.on hbq
                    have HOQ2 := own_on2 HOQ.out hbq
                    refine (restore_any way (by omega) _ t ab wq (by rw [HTS.out]; omega) (by rw [HTS.out]; omega) (HAB.out.on hbq)).mono ?_
                    rintro e w6 ⟨vrow, rfl, hrow, hb6⟩
                    rw [HROW.out] at hrow
                    have hq0 : wp.heap.size ≤ wq.heap.size := Nat.le_trans hwpr hbq.size
                    have HVR : Hid (w6.ownsRow wp.heap.size 5 1 vrow row.length (row.map bv)) := own_mono hrow hq0
                    have HO6 : Hid (w6.ownsRow wp.heap.size 52 2 xv qs.length (pixCells qs)) := own_on2 HOQ2 hb6
                    have HP6 : Hid (Three w6 w5.heap.size (.int .i64 (W : Int)) (.int .i64 (H : Int)) xv) := HPQ.on hb6
                    have HR6 : Hid (Three w6 w.heap.size (.int .i64 0) (.int .i64 0) (.slice none 0 0)) := HRQ.on hb6
                    have hw6 : wp.heap.size ≤ w6.heap.size := Nat.le_trans hq0 hb6.size
                    have hbw6 : Below w.heap.size w w6 := hbwq.trans (hb6.mono hbwq.size)
                    clear hrow hb6 HPQ HRQ HOQ2 hbwq hbq H3P H3R HOQ HAB
                    have hc2 := HP6.out.c2
                    go_wp2_with fail
                    refine (appendPixels_any wp.heap.size W xv vrow qs row w6 hw6 HO6 HVR HRLN (by omega) (by omega) (by omega)).mono ?_
                    rintro e w7 ⟨v', rfl, hown7, hrow7, hb7⟩
                    obtain ⟨n7, HN7⟩ : ∃ n, Hid ((qs ++ pixOf row).length = n) := ⟨_, (rfl : _ = _)⟩
                    obtain ⟨av7, cv7, hv7⟩ := own_any hown7
                    rw [HN7.out] at hv7
                    subst hv7
                    have HP7 := HP6.out.onB hb7 hltp
                    have HR7 := HR6.out.onB hb7 (by omega)
                    have hbw7 : Below w.heap.size w w7 := hbw6.trans (hb7.mono (by omega))
                    have hw7 : wp.heap.size ≤ w7.heap.size := Nat.le_trans hw6 hb7.size
                    have HP8 : Hid (Three (w7.setCell ⟨w5.heap.size, 2, none⟩ (.slice av7 n7 cv7)) w5.heap.size (.int .i64 (W : Int)) (.int .i64 (H : Int)) (.slice av7 n7 cv7)) := HP7.set2
                    have HR8 : Hid (Three (w7.setCell ⟨w5.heap.size, 2, none⟩ (.slice av7 n7 cv7)) w.heap.size (.int .i64 0) (.int .i64 0) (.slice none 0 0)) := HR7.other (by omega)
                    have HO8 : Hid ((w7.setCell ⟨w5.heap.size, 2, none⟩ (.slice av7 n7 cv7)).ownsRow wp.heap.size 52 2 (.slice av7 n7 cv7) (qs ++ pixOf row).length (pixCells (qs ++ pixOf row))) := ownsRow_setCell_below hown7 (a := ⟨w5.heap.size, 2, none⟩) hltp (.slice av7 n7 cv7)
                    have HB8 : Hid (RdB (w7.setCell ⟨w5.heap.size, 2, none⟩ (.slice av7 n7 cv7)) vrow row) := rdB_own (ownsRow_setCell_below hrow7 (a := ⟨w5.heap.size, 2, none⟩) hltp (.slice av7 n7 cv7))
                    have hb8 : Below w.heap.size w (w7.setCell ⟨w5.heap.size, 2, none⟩ (.slice av7 n7 cv7)) := hbw7.setCell (show w.heap.size ≤ w5.heap.size by omega) (.slice av7 n7 cv7)
                    have hw8 : wp.heap.size ≤ (w7.setCell ⟨w5.heap.size, 2, none⟩ (.slice av7 n7 cv7)).heap.size := by simpa using hw7
                    have hpl : (qs ++ pixOf row).length ≤ (k + 1) * 8 := by rw [List.length_append, pixOf_len W row HRLN.out]; omega
                    have hc3 := HP7.c2
                    have hf3 := HP7.f2
                    clear hown7 hrow7 hb7 HP7 HR7 HP6 HR6 HO6 HVR
                    go_wp2_with fail
                    go_roundw
                    case rel => exact ⟨k + 1, qs ++ pixOf row, row, (.slice av7 n7 cv7), by omega, by go_num, HB8, HP8, HO8, HR8, hb8, hw8, hpl, HN2⟩
                    case measure => simp [intOf]; omega
                · have HPE : Hid (parseRows us W H 0 [] = (qs, 0)) := by
                    unfold Hid; rw [HK.out, show H - k = 0 by omega]; simp [parseRows, combP]
                  have hc := HP.out
                  rw [HPE.out] at hc
                  simp at hc
                  obtain ⟨rfl, rfl, rfl, rfl⟩ := hc
                  obtain ⟨t0, t1, t2, f0, f1, f2, tl⟩ := H3R.out
                  obtain ⟨n7, HN7⟩ : ∃ n, Hid (ps.length = n) := ⟨_, (rfl : _ = _)⟩
                  obtain ⟨av7, cv7, hv7⟩ := own_any HOQ.out
                  rw [HN7.out] at hv7
                  subst hv7
                  obtain ⟨p0, p1, p2, q0, q1, q2, pl⟩ := H3P.out
                  go_wp2_with fail
                  exact bodyPost_ret (v := .tuple #[.agg #[.int .i64 (W' : Int), .int .i64 (H' : Int), .slice av7 n7 cv7], .nilIface]) (by simp [results, Tryz.results48, go_sem, t0, t1, t2]) rfl
                    ⟨_, rfl, rdP_own (ownsRow_setCell_below (ownsRow_setCell_below (ownsRow_setCell_below HOQ.out (a := ⟨w.heap.size, 0, none⟩) (show w.heap.size < wp.heap.size by omega) _) (a := ⟨w.heap.size, 1, none⟩) (show w.heap.size < wp.heap.size by omega) _) (a := ⟨w.heap.size, 2, none⟩) (show w.heap.size < wp.heap.size by omega) _),
                      ((hbr.setCell (Nat.le_refl _) _).setCell (Nat.le_refl _) _).setCell (Nat.le_refl _) _⟩
          · have HE : Hid (errV uc = .iface 62 (.int .i64 (uc : Int))) := by unfold Hid errV; rw [if_neg huc]
            have hc := HC.out
            rw [HB.out, if_pos huc] at hc
            simp only [Prod.mk.injEq] at hc
            obtain ⟨rfl, rfl, rfl, rfl⟩ := hc
            go_wp2_with fail
            refine (unpack_at2 _ _ _ hse (by omega) (by omega) x _ us uc HZ HX HE).mono ?_
            rintro e w5 ⟨rfl, hb5⟩
            obtain ⟨t0, t1, t2, f0, f1, f2, tl⟩ := HT.on hb5
            go_wp2_with fail
            exact bodyPost_ret (v := .tuple #[.agg #[.int .i64 0, .int .i64 0, .slice none 0 0], .iface 62 (.int .i64 (uc : Int))]) (by simp [results, Tryz.results48, go_sem, t0, t1, t2]) rfl ⟨_, by rw [HE.out]; rfl, rdP_nil _, (((hb.trans (hb5.mono hb.size)).setCell (Nat.le_refl _) _).setCell (Nat.le_refl _) _).setCell (Nat.le_refl _) _⟩
end Go.Proofs.YtceabiodelfdoaaGreatDoor
/- picture.Bytes of a picture that may not be. -/
namespace Go.Proofs.YtceabiodelfdoaaGreatDoor
open Go.RowKit

set_option maxHeartbeats 4000000 in
set_option maxRecDepth 100000 in
theorem picBytes_err (W H : Int) (v : Value) (ps : List (Int × Int)) (w : World) (hps : ps.length ≤ 1000000000) (HR : Hid (RdP w v ps)) (c : Nat) (hc : c ≠ 0) (HC : Hid (checkL W H ps = c)) :
    Calls Tryz.prog 55 #[.agg #[.int .i64 W, .int .i64 H, v]] w fun e w' => e = .returned (.tuple #[.string ⟨#[]⟩, .iface 62 (.int .i64 (c : Int))]) ∧ Below w.heap.size w w' := by
  have HE : Hid (errV c = .iface 62 (.int .i64 (c : Int))) := by unfold Hid errV; rw [if_neg hc]
  obtain ⟨a, cap, hv, hlc, hcap, hh⟩ := HR.out
  obtain ⟨n, HNN⟩ : ∃ n, Hid (ps.length = n) := ⟨_, (rfl : _ = _)⟩
  clear hh
  rw [HNN.out] at hv hlc
  subst hv
  have hb0 : Below w.heap.size w (w.alloc (.cells #[.int .i64 W, .int .i64 H, .slice a n cap] 46)) := (Below.refl _ _).alloc (Nat.le_refl _) _
  have HR0 : Hid (RdP (w.alloc (.cells #[.int .i64 W, .int .i64 H, .slice a n cap] 46)) (.slice a n cap) ps) := HR.out.on hb0
  go_enter Tryz.func55, Tryz.ntmps55
  go_wp2_with fail
  refine (check_any W H (.slice a n cap) ps _ hps HR0 c HC).mono ?_
  rintro e w1 ⟨rfl, hb1⟩
  rw [HE.out]
  have hbw1 : Below w.heap.size w w1 := hb0.trans (hb1.mono hb0.size)
  clear hb0 hb1 HR0
  go_wp2_with fail
  exact bodyPost_ret (v := .tuple #[.string ⟨#[]⟩, .iface 62 (.int .i64 (c : Int))]) (by simp [results, Tryz.results55, go_sem]) rfl ⟨rfl, hbw1⟩
end Go.Proofs.YtceabiodelfdoaaGreatDoor
/- Walk of the law TopPicture. -/
namespace Go.Proofs.YtceabiodelfdoaaGreatDoor
open Go.RowKit

set_option maxRecDepth 100000 in
theorem rdP_lit (w : World) (g : Nat) (h : Duo w g (.int .i64 0) (.int .i64 0)) : RdP w (.slice (some ⟨g, 0, none⟩) 1 1) [(0, 0)] := by
  refine ⟨_, 1, rfl, by simp, by omega, fun _ => ⟨g, 0, rfl, h.lt, fun j hj => ?_⟩⟩
  have : j = 0 := by simpa using hj
  subst this
  exact ⟨h.c0, h.c1⟩
set_option maxRecDepth 100000 in
theorem duo_start2 (w : World) (x y : Value) (T : TypeId) : Duo (w.alloc (.cells #[x, y] T)) w.heap.size x y := ⟨by simp, by simp, by simp⟩

set_option maxRecDepth 100000 in
theorem picBytes_at (W H : Nat) (v : Value) (ps : List (Int × Int)) (w : World) (HR : Hid (RdP w v ps)) (HC : Hid (checkL (W : Int) (H : Int) ps = 0)) (t : ByteArray) (HT : Hid (picBytes W H ps = t.data.toList)) :
    Calls Tryz.prog 55 #[.agg #[.int .i64 (W : Int), .int .i64 (H : Int), v]] w fun e w' => e = .returned (.tuple #[.string t, .nilIface]) ∧ Below w.heap.size w w' := by
  have h := picBytes_ok W H v ps w HR HC
  rw [HT.out, str_self] at h
  exact h

end Go.Proofs.YtceabiodelfdoaaGreatDoor
