/- Walk of picture.tell, way by way. -/
import Derived.Test.YtfhfedcamcpceaaDoorM4
namespace Go.Proofs.YtfhfedcamcpceaaDoor
open Go.RowKit

set_option maxHeartbeats 4000000 in
set_option maxRecDepth 100000 in
theorem tell0 (v u : Value) (row ab : List UInt8) (w : World) (hne : row ≠ []) (hlen : row.length ≤ 1000) (HR : Hid (RdB w v row)) (HA : Hid (RdB w u ab)) :
    Calls Tryd.prog 72 #[.int .i64 0, v, u] w fun e w' => e = .returned (str (Fb.tellL 0 row ab)) ∧ Below w.heap.size w w' := by
  obtain ⟨i0, hi, hz0, hz1, hz2⟩ := info_parts Tryd.infoByte
  obtain ⟨a, cap, hv, hlc, hcap, hh⟩ := HR.out
  obtain ⟨gr, rfl, hgr, hcr⟩ := hh hne
  obtain ⟨a2, cap2, hu, hl2, hc2, hh2⟩ := HA.out
  clear hl2 hh2
  obtain ⟨n, HN⟩ : ∃ n, Hid (row.length = n) := ⟨_, (rfl : _ = _)⟩
  rw [HN.out] at hv hlc hlen
  have HCR : Hid (∀ j, j < n → w.cell? ⟨gr, j, none⟩ = some (bv (row.getD j 0))) := by unfold Hid; rw [← HN.out]; exact hcr
  clear hcr hh
  have HGC : Hid (GuessC 0 86 #[] w.heap.size v u) := guess0 _ _ _
  have HGU : Hid (Calls Tryd.prog 74 #[.int .i64 0, v, u] w fun e w' => e = .returned (.func (.func 86) #[] #[]) ∧ Boxes w' w.heap.size v u ∧ Below w.heap.size w w') := guesser_any 0 (by decide) v u w n cap ab.length cap2 _ a2 hv hu
  subst hv hu
  go_enter Tryd.func72, Tryd.ntmps72
  go_wp2_with fail
  refine Calls.mono HGU.out ?_
  rintro e w1 ⟨rfl, hbx, hb1⟩
  have HBX : Hid (Boxes w1 w.heap.size (.slice (some ⟨gr, 0, none⟩) n cap) (.slice a2 ab.length cap2)) := hbx
  clear hbx HGU
  go_wp2_with (at_make; refine wpList_make_full _ rfl _ _ 59 rfl w1.heap.size 5 i0 (.int .u8 0) 1 Tryd.underlying59 hi hz0 hz1 _ _ _ _ n rfl rfl rfl rfl ?b1 ?b2 ?b3 ?_)
  case b1 => rw [hz2]; omega
  case b2 => unfold maxLen; omega
  case b3 => exact Nat.le_refl _
  intro w2 hown2 hgrow2
  rw [made_zero] at hown2
  have hb2 : Below w1.heap.size w1 w2 := (Below.refl _ _).grown hgrow2 (Nat.le_refl _) (by intro k hk; cases hk)
  clear hgrow2
  go_wp2_with fail
  go_loopw [19] (fun i wr => ∃ k : Nat, k ≤ n ∧ i = .int .i64 k ∧ Below w1.heap.size w1 wr ∧ Hid (wr.ownsRow w1.heap.size 5 1 (.slice (some ⟨w1.heap.size, 0, none⟩) n n) n ((Fb.tellTo 0 row ab k ++ List.replicate (n - k) 0).map bv))) (fun i _ => n - (intOf i).toNat)
  case atStart => exact ⟨0, by omega, rfl, hb2, hown2⟩
  case round =>
    obtain ⟨k, hk, rfl, hb, HOWN⟩ := hrel
    by_cases hlt : k < n
    · have hc := HCR.out k hlt
      obtain ⟨x, HX⟩ : ∃ x, Hid (row.getD k 0 = x) := ⟨_, (rfl : _ = _)⟩
      obtain ⟨y, HY⟩ : ∃ x, Hid (Fb.guessB 0 row ab k = x) := ⟨_, (rfl : _ = _)⟩
      obtain ⟨xx, HXX⟩ : ∃ m, Hid (x.toNat = m) := ⟨_, (rfl : _ = _)⟩
      obtain ⟨yy, HYY⟩ : ∃ m, Hid (y.toNat = m) := ⟨_, (rfl : _ = _)⟩
      obtain ⟨dd, HDD⟩ : ∃ m, Hid ((x - y).toNat = m) := ⟨_, (rfl : _ = _)⟩
      have hgr1 : gr < w1.heap.size := Nat.lt_of_lt_of_le hgr hb1.size
      have hcx : wr.cell? ⟨gr, k, none⟩ = some (.int .u8 (xx : Int)) := by
        rw [hb.cell (p := ⟨gr, k, none⟩) hgr1, hb1.cell (p := ⟨gr, k, none⟩) hgr, hc, HX.out, ← HXX.out]; rfl
      have hsub : IntKind.u8.wrap ((xx : Int) - (yy : Int)) = (dd : Int) := by rw [← HXX.out, ← HYY.out, ← HDD.out]; exact sub_byte x y
      have hfz := HOWN.out.frozenAt k
      have hcg : wr.cell? ⟨w1.heap.size, k, none⟩ = some (.int .u8 0) := by
        rw [HOWN.out.cellAt k (by omega), List.getElem?_map, List.getElem?_append_right (by rw [Fb.tellTo_len]; omega), Fb.tellTo_len, Nat.sub_self, show n - k = (n - k - 1) + 1 by omega, List.replicate_succ]; rfl
      have HCALL : Hid (Calls Tryd.prog 86 #[.int .i64 (k : Int)] wr.drew fun e W' => e = .returned (.int .u8 (yy : Int)) ∧ ∃ q, W' = wr.drew.drewN q) := by
        have h := HGC.out wr.drew row ab k (by omega) (by rw [HN.out]; omega) (HBX.out.on hb).drew ((HR.out.on hb1).on hb).drew ((HA.out.on hb1).on hb).drew
        rw [HY.out, HYY.out] at h
        exact h
      have HSET : Hid (∀ m, ((wr.drewN m).setCell ⟨w1.heap.size, k, none⟩ (.int .u8 (dd : Int))).ownsRow w1.heap.size 5 1 (.slice (some ⟨w1.heap.size, 0, none⟩) n n) n ((Fb.tellTo 0 row ab (k + 1) ++ List.replicate (n - (k + 1)) 0).map bv)) := by
        unfold Hid
        intro m
        have h := ((owns_drewN HOWN.out m).stored k (.int .u8 (dd : Int))).1
        have e : (.int .u8 (dd : Int) : Value) = bv (x - y) := by unfold bv; rw [HDD.out]
        rw [e, set_row _ _ k n hlt (Fb.tellTo_len _ _ _ _)] at h
        rw [e, Fb.tellTo, HX.out, HY.out]
        exact h
      clear hc
      go_upto_region 6 with fail
      go_region_with (go_at_call 86; refine Calls.mono HCALL.out ?_; rintro e w3 ⟨rfl, q, rfl⟩)
      all_goals go_wp2_with fail
      all_goals (go_roundw; (case rel => exact ⟨k + 1, by omega, by go_num, (below_drewN hb _).setCell (Nat.le_refl _) _, HSET.out _⟩); (case measure => simp [intOf]; omega))
    · have hkn : k = n := by omega
      subst hkn
      have HOWN2 : wr.ownsRow w1.heap.size 5 1 (.slice (some ⟨w1.heap.size, 0, none⟩) k k) (Fb.tellL 0 row ab).length ((Fb.tellL 0 row ab).map bv) := by
        have h := HOWN.out
        rw [Nat.sub_self] at h
        unfold Fb.tellL
        rw [Fb.tellTo_len, HN.out]
        simpa using h
      have hst := run_str HOWN2
      clear HOWN2
      go_wp2_with fail
      go_ret
      exact ⟨rfl, hb1.trans (hb.mono hb1.size)⟩

set_option maxHeartbeats 4000000 in
set_option maxRecDepth 100000 in
theorem tell1 (v u : Value) (row ab : List UInt8) (w : World) (hne : row ≠ []) (hlen : row.length ≤ 1000) (HR : Hid (RdB w v row)) (HA : Hid (RdB w u ab)) :
    Calls Tryd.prog 72 #[.int .i64 1, v, u] w fun e w' => e = .returned (str (Fb.tellL 1 row ab)) ∧ Below w.heap.size w w' := by
  obtain ⟨i0, hi, hz0, hz1, hz2⟩ := info_parts Tryd.infoByte
  obtain ⟨a, cap, hv, hlc, hcap, hh⟩ := HR.out
  obtain ⟨gr, rfl, hgr, hcr⟩ := hh hne
  obtain ⟨a2, cap2, hu, hl2, hc2, hh2⟩ := HA.out
  clear hl2 hh2
  obtain ⟨n, HN⟩ : ∃ n, Hid (row.length = n) := ⟨_, (rfl : _ = _)⟩
  rw [HN.out] at hv hlc hlen
  have HCR : Hid (∀ j, j < n → w.cell? ⟨gr, j, none⟩ = some (bv (row.getD j 0))) := by unfold Hid; rw [← HN.out]; exact hcr
  clear hcr hh
  have HGC : Hid (GuessC 1 83 #[.pointer (some ⟨w.heap.size, 0, none⟩)] w.heap.size v u) := guess1 _ _ _
  have HGU : Hid (Calls Tryd.prog 74 #[.int .i64 1, v, u] w fun e w' => e = .returned (.func (.func 83) #[] #[.pointer (some ⟨w.heap.size, 0, none⟩)]) ∧ Boxes w' w.heap.size v u ∧ Below w.heap.size w w') := guesser_any 1 (by decide) v u w n cap ab.length cap2 _ a2 hv hu
  subst hv hu
  go_enter Tryd.func72, Tryd.ntmps72
  go_wp2_with fail
  refine Calls.mono HGU.out ?_
  rintro e w1 ⟨rfl, hbx, hb1⟩
  have HBX : Hid (Boxes w1 w.heap.size (.slice (some ⟨gr, 0, none⟩) n cap) (.slice a2 ab.length cap2)) := hbx
  clear hbx HGU
  go_wp2_with (at_make; refine wpList_make_full _ rfl _ _ 59 rfl w1.heap.size 5 i0 (.int .u8 0) 1 Tryd.underlying59 hi hz0 hz1 _ _ _ _ n rfl rfl rfl rfl ?b1 ?b2 ?b3 ?_)
  case b1 => rw [hz2]; omega
  case b2 => unfold maxLen; omega
  case b3 => exact Nat.le_refl _
  intro w2 hown2 hgrow2
  rw [made_zero] at hown2
  have hb2 : Below w1.heap.size w1 w2 := (Below.refl _ _).grown hgrow2 (Nat.le_refl _) (by intro k hk; cases hk)
  clear hgrow2
  go_wp2_with fail
  go_loopw [19] (fun i wr => ∃ k : Nat, k ≤ n ∧ i = .int .i64 k ∧ Below w1.heap.size w1 wr ∧ Hid (wr.ownsRow w1.heap.size 5 1 (.slice (some ⟨w1.heap.size, 0, none⟩) n n) n ((Fb.tellTo 1 row ab k ++ List.replicate (n - k) 0).map bv))) (fun i _ => n - (intOf i).toNat)
  case atStart => exact ⟨0, by omega, rfl, hb2, hown2⟩
  case round =>
    obtain ⟨k, hk, rfl, hb, HOWN⟩ := hrel
    by_cases hlt : k < n
    · have hc := HCR.out k hlt
      obtain ⟨x, HX⟩ : ∃ x, Hid (row.getD k 0 = x) := ⟨_, (rfl : _ = _)⟩
      obtain ⟨y, HY⟩ : ∃ x, Hid (Fb.guessB 1 row ab k = x) := ⟨_, (rfl : _ = _)⟩
      obtain ⟨xx, HXX⟩ : ∃ m, Hid (x.toNat = m) := ⟨_, (rfl : _ = _)⟩
      obtain ⟨yy, HYY⟩ : ∃ m, Hid (y.toNat = m) := ⟨_, (rfl : _ = _)⟩
      obtain ⟨dd, HDD⟩ : ∃ m, Hid ((x - y).toNat = m) := ⟨_, (rfl : _ = _)⟩
      have hgr1 : gr < w1.heap.size := Nat.lt_of_lt_of_le hgr hb1.size
      have hcx : wr.cell? ⟨gr, k, none⟩ = some (.int .u8 (xx : Int)) := by
        rw [hb.cell (p := ⟨gr, k, none⟩) hgr1, hb1.cell (p := ⟨gr, k, none⟩) hgr, hc, HX.out, ← HXX.out]; rfl
      have hsub : IntKind.u8.wrap ((xx : Int) - (yy : Int)) = (dd : Int) := by rw [← HXX.out, ← HYY.out, ← HDD.out]; exact sub_byte x y
      have hfz := HOWN.out.frozenAt k
      have hcg : wr.cell? ⟨w1.heap.size, k, none⟩ = some (.int .u8 0) := by
        rw [HOWN.out.cellAt k (by omega), List.getElem?_map, List.getElem?_append_right (by rw [Fb.tellTo_len]; omega), Fb.tellTo_len, Nat.sub_self, show n - k = (n - k - 1) + 1 by omega, List.replicate_succ]; rfl
      have HCALL : Hid (Calls Tryd.prog 83 #[.int .i64 (k : Int), .pointer (some ⟨w.heap.size, 0, none⟩)] wr.drew fun e W' => e = .returned (.int .u8 (yy : Int)) ∧ ∃ q, W' = wr.drew.drewN q) := by
        have h := HGC.out wr.drew row ab k (by omega) (by rw [HN.out]; omega) (HBX.out.on hb).drew ((HR.out.on hb1).on hb).drew ((HA.out.on hb1).on hb).drew
        rw [HY.out, HYY.out] at h
        exact h
      have HSET : Hid (∀ m, ((wr.drewN m).setCell ⟨w1.heap.size, k, none⟩ (.int .u8 (dd : Int))).ownsRow w1.heap.size 5 1 (.slice (some ⟨w1.heap.size, 0, none⟩) n n) n ((Fb.tellTo 1 row ab (k + 1) ++ List.replicate (n - (k + 1)) 0).map bv)) := by
        unfold Hid
        intro m
        have h := ((owns_drewN HOWN.out m).stored k (.int .u8 (dd : Int))).1
        have e : (.int .u8 (dd : Int) : Value) = bv (x - y) := by unfold bv; rw [HDD.out]
        rw [e, set_row _ _ k n hlt (Fb.tellTo_len _ _ _ _)] at h
        rw [e, Fb.tellTo, HX.out, HY.out]
        exact h
      clear hc
      go_upto_region 6 with fail
      go_region_with (go_at_call 83; refine Calls.mono HCALL.out ?_; rintro e w3 ⟨rfl, q, rfl⟩)
      all_goals go_wp2_with fail
      all_goals (go_roundw; (case rel => exact ⟨k + 1, by omega, by go_num, (below_drewN hb _).setCell (Nat.le_refl _) _, HSET.out _⟩); (case measure => simp [intOf]; omega))
    · have hkn : k = n := by omega
      subst hkn
      have HOWN2 : wr.ownsRow w1.heap.size 5 1 (.slice (some ⟨w1.heap.size, 0, none⟩) k k) (Fb.tellL 1 row ab).length ((Fb.tellL 1 row ab).map bv) := by
        have h := HOWN.out
        rw [Nat.sub_self] at h
        unfold Fb.tellL
        rw [Fb.tellTo_len, HN.out]
        simpa using h
      have hst := run_str HOWN2
      clear HOWN2
      go_wp2_with fail
      go_ret
      exact ⟨rfl, hb1.trans (hb.mono hb1.size)⟩

set_option maxHeartbeats 4000000 in
set_option maxRecDepth 100000 in
theorem tell2 (v u : Value) (row ab : List UInt8) (w : World) (hne : row ≠ []) (hlen : row.length ≤ 1000) (HR : Hid (RdB w v row)) (HA : Hid (RdB w u ab)) :
    Calls Tryd.prog 72 #[.int .i64 2, v, u] w fun e w' => e = .returned (str (Fb.tellL 2 row ab)) ∧ Below w.heap.size w w' := by
  obtain ⟨i0, hi, hz0, hz1, hz2⟩ := info_parts Tryd.infoByte
  obtain ⟨a, cap, hv, hlc, hcap, hh⟩ := HR.out
  obtain ⟨gr, rfl, hgr, hcr⟩ := hh hne
  obtain ⟨a2, cap2, hu, hl2, hc2, hh2⟩ := HA.out
  clear hl2 hh2
  obtain ⟨n, HN⟩ : ∃ n, Hid (row.length = n) := ⟨_, (rfl : _ = _)⟩
  rw [HN.out] at hv hlc hlen
  have HCR : Hid (∀ j, j < n → w.cell? ⟨gr, j, none⟩ = some (bv (row.getD j 0))) := by unfold Hid; rw [← HN.out]; exact hcr
  clear hcr hh
  have HGC : Hid (GuessC 2 84 #[.pointer (some ⟨w.heap.size + 1, 0, none⟩)] w.heap.size v u) := guess2 _ _ _
  have HGU : Hid (Calls Tryd.prog 74 #[.int .i64 2, v, u] w fun e w' => e = .returned (.func (.func 84) #[] #[.pointer (some ⟨w.heap.size + 1, 0, none⟩)]) ∧ Boxes w' w.heap.size v u ∧ Below w.heap.size w w') := guesser_any 2 (by decide) v u w n cap ab.length cap2 _ a2 hv hu
  subst hv hu
  go_enter Tryd.func72, Tryd.ntmps72
  go_wp2_with fail
  refine Calls.mono HGU.out ?_
  rintro e w1 ⟨rfl, hbx, hb1⟩
  have HBX : Hid (Boxes w1 w.heap.size (.slice (some ⟨gr, 0, none⟩) n cap) (.slice a2 ab.length cap2)) := hbx
  clear hbx HGU
  go_wp2_with (at_make; refine wpList_make_full _ rfl _ _ 59 rfl w1.heap.size 5 i0 (.int .u8 0) 1 Tryd.underlying59 hi hz0 hz1 _ _ _ _ n rfl rfl rfl rfl ?b1 ?b2 ?b3 ?_)
  case b1 => rw [hz2]; omega
  case b2 => unfold maxLen; omega
  case b3 => exact Nat.le_refl _
  intro w2 hown2 hgrow2
  rw [made_zero] at hown2
  have hb2 : Below w1.heap.size w1 w2 := (Below.refl _ _).grown hgrow2 (Nat.le_refl _) (by intro k hk; cases hk)
  clear hgrow2
  go_wp2_with fail
  go_loopw [19] (fun i wr => ∃ k : Nat, k ≤ n ∧ i = .int .i64 k ∧ Below w1.heap.size w1 wr ∧ Hid (wr.ownsRow w1.heap.size 5 1 (.slice (some ⟨w1.heap.size, 0, none⟩) n n) n ((Fb.tellTo 2 row ab k ++ List.replicate (n - k) 0).map bv))) (fun i _ => n - (intOf i).toNat)
  case atStart => exact ⟨0, by omega, rfl, hb2, hown2⟩
  case round =>
    obtain ⟨k, hk, rfl, hb, HOWN⟩ := hrel
    by_cases hlt : k < n
    · have hc := HCR.out k hlt
      obtain ⟨x, HX⟩ : ∃ x, Hid (row.getD k 0 = x) := ⟨_, (rfl : _ = _)⟩
      obtain ⟨y, HY⟩ : ∃ x, Hid (Fb.guessB 2 row ab k = x) := ⟨_, (rfl : _ = _)⟩
      obtain ⟨xx, HXX⟩ : ∃ m, Hid (x.toNat = m) := ⟨_, (rfl : _ = _)⟩
      obtain ⟨yy, HYY⟩ : ∃ m, Hid (y.toNat = m) := ⟨_, (rfl : _ = _)⟩
      obtain ⟨dd, HDD⟩ : ∃ m, Hid ((x - y).toNat = m) := ⟨_, (rfl : _ = _)⟩
      have hgr1 : gr < w1.heap.size := Nat.lt_of_lt_of_le hgr hb1.size
      have hcx : wr.cell? ⟨gr, k, none⟩ = some (.int .u8 (xx : Int)) := by
        rw [hb.cell (p := ⟨gr, k, none⟩) hgr1, hb1.cell (p := ⟨gr, k, none⟩) hgr, hc, HX.out, ← HXX.out]; rfl
      have hsub : IntKind.u8.wrap ((xx : Int) - (yy : Int)) = (dd : Int) := by rw [← HXX.out, ← HYY.out, ← HDD.out]; exact sub_byte x y
      have hfz := HOWN.out.frozenAt k
      have hcg : wr.cell? ⟨w1.heap.size, k, none⟩ = some (.int .u8 0) := by
        rw [HOWN.out.cellAt k (by omega), List.getElem?_map, List.getElem?_append_right (by rw [Fb.tellTo_len]; omega), Fb.tellTo_len, Nat.sub_self, show n - k = (n - k - 1) + 1 by omega, List.replicate_succ]; rfl
      have HCALL : Hid (Calls Tryd.prog 84 #[.int .i64 (k : Int), .pointer (some ⟨w.heap.size + 1, 0, none⟩)] wr.drew fun e W' => e = .returned (.int .u8 (yy : Int)) ∧ ∃ q, W' = wr.drew.drewN q) := by
        have h := HGC.out wr.drew row ab k (by omega) (by rw [HN.out]; omega) (HBX.out.on hb).drew ((HR.out.on hb1).on hb).drew ((HA.out.on hb1).on hb).drew
        rw [HY.out, HYY.out] at h
        exact h
      have HSET : Hid (∀ m, ((wr.drewN m).setCell ⟨w1.heap.size, k, none⟩ (.int .u8 (dd : Int))).ownsRow w1.heap.size 5 1 (.slice (some ⟨w1.heap.size, 0, none⟩) n n) n ((Fb.tellTo 2 row ab (k + 1) ++ List.replicate (n - (k + 1)) 0).map bv)) := by
        unfold Hid
        intro m
        have h := ((owns_drewN HOWN.out m).stored k (.int .u8 (dd : Int))).1
        have e : (.int .u8 (dd : Int) : Value) = bv (x - y) := by unfold bv; rw [HDD.out]
        rw [e, set_row _ _ k n hlt (Fb.tellTo_len _ _ _ _)] at h
        rw [e, Fb.tellTo, HX.out, HY.out]
        exact h
      clear hc
      go_upto_region 6 with fail
      go_region_with (go_at_call 84; refine Calls.mono HCALL.out ?_; rintro e w3 ⟨rfl, q, rfl⟩)
      all_goals go_wp2_with fail
      all_goals (go_roundw; (case rel => exact ⟨k + 1, by omega, by go_num, (below_drewN hb _).setCell (Nat.le_refl _) _, HSET.out _⟩); (case measure => simp [intOf]; omega))
    · have hkn : k = n := by omega
      subst hkn
      have HOWN2 : wr.ownsRow w1.heap.size 5 1 (.slice (some ⟨w1.heap.size, 0, none⟩) k k) (Fb.tellL 2 row ab).length ((Fb.tellL 2 row ab).map bv) := by
        have h := HOWN.out
        rw [Nat.sub_self] at h
        unfold Fb.tellL
        rw [Fb.tellTo_len, HN.out]
        simpa using h
      have hst := run_str HOWN2
      clear HOWN2
      go_wp2_with fail
      go_ret
      exact ⟨rfl, hb1.trans (hb.mono hb1.size)⟩

set_option maxHeartbeats 4000000 in
set_option maxRecDepth 100000 in
theorem tell3 (v u : Value) (row ab : List UInt8) (w : World) (hne : row ≠ []) (hlen : row.length ≤ 1000) (HR : Hid (RdB w v row)) (HA : Hid (RdB w u ab)) :
    Calls Tryd.prog 72 #[.int .i64 3, v, u] w fun e w' => e = .returned (str (Fb.tellL 3 row ab)) ∧ Below w.heap.size w w' := by
  obtain ⟨i0, hi, hz0, hz1, hz2⟩ := info_parts Tryd.infoByte
  obtain ⟨a, cap, hv, hlc, hcap, hh⟩ := HR.out
  obtain ⟨gr, rfl, hgr, hcr⟩ := hh hne
  obtain ⟨a2, cap2, hu, hl2, hc2, hh2⟩ := HA.out
  clear hl2 hh2
  obtain ⟨n, HN⟩ : ∃ n, Hid (row.length = n) := ⟨_, (rfl : _ = _)⟩
  rw [HN.out] at hv hlc hlen
  have HCR : Hid (∀ j, j < n → w.cell? ⟨gr, j, none⟩ = some (bv (row.getD j 0))) := by unfold Hid; rw [← HN.out]; exact hcr
  clear hcr hh
  have HGC : Hid (GuessC 3 85 #[.pointer (some ⟨w.heap.size + 2, 0, none⟩), .pointer (some ⟨w.heap.size + 3, 0, none⟩)] w.heap.size v u) := guess3 _ _ _
  have HGU : Hid (Calls Tryd.prog 74 #[.int .i64 3, v, u] w fun e w' => e = .returned (.func (.func 85) #[] #[.pointer (some ⟨w.heap.size + 2, 0, none⟩), .pointer (some ⟨w.heap.size + 3, 0, none⟩)]) ∧ Boxes w' w.heap.size v u ∧ Below w.heap.size w w') := guesser_any 3 (by decide) v u w n cap ab.length cap2 _ a2 hv hu
  subst hv hu
  go_enter Tryd.func72, Tryd.ntmps72
  go_wp2_with fail
  refine Calls.mono HGU.out ?_
  rintro e w1 ⟨rfl, hbx, hb1⟩
  have HBX : Hid (Boxes w1 w.heap.size (.slice (some ⟨gr, 0, none⟩) n cap) (.slice a2 ab.length cap2)) := hbx
  clear hbx HGU
  go_wp2_with (at_make; refine wpList_make_full _ rfl _ _ 59 rfl w1.heap.size 5 i0 (.int .u8 0) 1 Tryd.underlying59 hi hz0 hz1 _ _ _ _ n rfl rfl rfl rfl ?b1 ?b2 ?b3 ?_)
  case b1 => rw [hz2]; omega
  case b2 => unfold maxLen; omega
  case b3 => exact Nat.le_refl _
  intro w2 hown2 hgrow2
  rw [made_zero] at hown2
  have hb2 : Below w1.heap.size w1 w2 := (Below.refl _ _).grown hgrow2 (Nat.le_refl _) (by intro k hk; cases hk)
  clear hgrow2
  go_wp2_with fail
  go_loopw [19] (fun i wr => ∃ k : Nat, k ≤ n ∧ i = .int .i64 k ∧ Below w1.heap.size w1 wr ∧ Hid (wr.ownsRow w1.heap.size 5 1 (.slice (some ⟨w1.heap.size, 0, none⟩) n n) n ((Fb.tellTo 3 row ab k ++ List.replicate (n - k) 0).map bv))) (fun i _ => n - (intOf i).toNat)
  case atStart => exact ⟨0, by omega, rfl, hb2, hown2⟩
  case round =>
    obtain ⟨k, hk, rfl, hb, HOWN⟩ := hrel
    by_cases hlt : k < n
    · have hc := HCR.out k hlt
      obtain ⟨x, HX⟩ : ∃ x, Hid (row.getD k 0 = x) := ⟨_, (rfl : _ = _)⟩
      obtain ⟨y, HY⟩ : ∃ x, Hid (Fb.guessB 3 row ab k = x) := ⟨_, (rfl : _ = _)⟩
      obtain ⟨xx, HXX⟩ : ∃ m, Hid (x.toNat = m) := ⟨_, (rfl : _ = _)⟩
      obtain ⟨yy, HYY⟩ : ∃ m, Hid (y.toNat = m) := ⟨_, (rfl : _ = _)⟩
      obtain ⟨dd, HDD⟩ : ∃ m, Hid ((x - y).toNat = m) := ⟨_, (rfl : _ = _)⟩
      have hgr1 : gr < w1.heap.size := Nat.lt_of_lt_of_le hgr hb1.size
      have hcx : wr.cell? ⟨gr, k, none⟩ = some (.int .u8 (xx : Int)) := by
        rw [hb.cell (p := ⟨gr, k, none⟩) hgr1, hb1.cell (p := ⟨gr, k, none⟩) hgr, hc, HX.out, ← HXX.out]; rfl
      have hsub : IntKind.u8.wrap ((xx : Int) - (yy : Int)) = (dd : Int) := by rw [← HXX.out, ← HYY.out, ← HDD.out]; exact sub_byte x y
      have hfz := HOWN.out.frozenAt k
      have hcg : wr.cell? ⟨w1.heap.size, k, none⟩ = some (.int .u8 0) := by
        rw [HOWN.out.cellAt k (by omega), List.getElem?_map, List.getElem?_append_right (by rw [Fb.tellTo_len]; omega), Fb.tellTo_len, Nat.sub_self, show n - k = (n - k - 1) + 1 by omega, List.replicate_succ]; rfl
      have HCALL : Hid (Calls Tryd.prog 85 #[.int .i64 (k : Int), .pointer (some ⟨w.heap.size + 2, 0, none⟩), .pointer (some ⟨w.heap.size + 3, 0, none⟩)] wr.drew fun e W' => e = .returned (.int .u8 (yy : Int)) ∧ ∃ q, W' = wr.drew.drewN q) := by
        have h := HGC.out wr.drew row ab k (by omega) (by rw [HN.out]; omega) (HBX.out.on hb).drew ((HR.out.on hb1).on hb).drew ((HA.out.on hb1).on hb).drew
        rw [HY.out, HYY.out] at h
        exact h
      have HSET : Hid (∀ m, ((wr.drewN m).setCell ⟨w1.heap.size, k, none⟩ (.int .u8 (dd : Int))).ownsRow w1.heap.size 5 1 (.slice (some ⟨w1.heap.size, 0, none⟩) n n) n ((Fb.tellTo 3 row ab (k + 1) ++ List.replicate (n - (k + 1)) 0).map bv)) := by
        unfold Hid
        intro m
        have h := ((owns_drewN HOWN.out m).stored k (.int .u8 (dd : Int))).1
        have e : (.int .u8 (dd : Int) : Value) = bv (x - y) := by unfold bv; rw [HDD.out]
        rw [e, set_row _ _ k n hlt (Fb.tellTo_len _ _ _ _)] at h
        rw [e, Fb.tellTo, HX.out, HY.out]
        exact h
      clear hc
      go_upto_region 6 with fail
      go_region_with (go_at_call 85; refine Calls.mono HCALL.out ?_; rintro e w3 ⟨rfl, q, rfl⟩)
      all_goals go_wp2_with fail
      all_goals (go_roundw; (case rel => exact ⟨k + 1, by omega, by go_num, (below_drewN hb _).setCell (Nat.le_refl _) _, HSET.out _⟩); (case measure => simp [intOf]; omega))
    · have hkn : k = n := by omega
      subst hkn
      have HOWN2 : wr.ownsRow w1.heap.size 5 1 (.slice (some ⟨w1.heap.size, 0, none⟩) k k) (Fb.tellL 3 row ab).length ((Fb.tellL 3 row ab).map bv) := by
        have h := HOWN.out
        rw [Nat.sub_self] at h
        unfold Fb.tellL
        rw [Fb.tellTo_len, HN.out]
        simpa using h
      have hst := run_str HOWN2
      clear HOWN2
      go_wp2_with fail
      go_ret
      exact ⟨rfl, hb1.trans (hb.mono hb1.size)⟩

set_option maxRecDepth 100000 in
theorem tell_any (way : Nat) (hway : way < 4) (v u : Value) (row ab : List UInt8) (w : World) (hne : row ≠ []) (hlen : row.length ≤ 1000) (HR : Hid (RdB w v row)) (HA : Hid (RdB w u ab)) :
    Calls Tryd.prog 72 #[.int .i64 (way : Int), v, u] w fun e w' => e = .returned (str (Fb.tellL way row ab)) ∧ Below w.heap.size w w' := by
  have h4 : way = 0 ∨ way = 1 ∨ way = 2 ∨ way = 3 := by omega
  rcases h4 with rfl | rfl | rfl | rfl
  · exact tell0 v u row ab w hne hlen HR HA
  · exact tell1 v u row ab w hne hlen HR HA
  · exact tell2 v u row ab w hne hlen HR HA
  · exact tell3 v u row ab w hne hlen HR HA
end Go.Proofs.YtfhfedcamcpceaaDoor
