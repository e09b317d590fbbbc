/- Some of the walks, in one text. -/
import Derived.Test.YtfhfedcamcpceaaDoorM1
import Derived.Deep.Cut
import Derived.Deep.RegionWith
import Derived.Deep.RegionLaw
import Derived.Lib.Strings
import Derived.Test.YtfhfedcamcpceaaDoorChecked
import Derived.WalkKit
import Derived.WalkSpells
import Derived.WalkLawsBesides
import Derived.BigQuiet
import Derived.Deep.QuietTactic
import Derived.Outline
import Derived.Deep.RegionHeld3
import Derived.Lib.AppendStr
import Derived.Test.YtfhfedcamcpceaaDoorRows
import Derived.Lib.LaidTab
import Derived.Lib.SmallJoins
/- Walk of picture.restore, way by way. -/
namespace Go.Proofs.YtfhfedcamcpceaaDoor
open Go.RowKit

set_option maxHeartbeats 4000000 in
set_option maxRecDepth 100000 in
theorem restore0 (u : Value) (t : ByteArray) (ab : List UInt8) (w : World) (hlen : t.size ≤ 1000) (hpos : 0 < t.size) (HA : Hid (RdB w u ab)) :
    Calls Tryd.prog 59 #[.int .i64 0, .string t, u] w fun e w' => ∃ v, e = .returned v ∧ w'.ownsRow w.heap.size 5 1 v (Fb.restL 0 t.data.toList ab).length ((Fb.restL 0 t.data.toList ab).map bv) ∧ Below w.heap.size w w' := by
  obtain ⟨i0, hi, hz0, hz1, hz2⟩ := info_parts Tryd.infoByte
  obtain ⟨a2, cap2, hu, hl2, hc2, hh2⟩ := HA.out
  clear hl2 hh2
  have HN : Hid (t.data.toList.length = t.size) := by unfold Hid; simp
  obtain ⟨n, HNN⟩ : ∃ n, Hid (t.size = n) := ⟨_, (rfl : _ = _)⟩
  have hn1 : n ≤ t.size := by rw [HNN.out]; exact Nat.le_refl _
  have hn2 : t.size ≤ n := by rw [HNN.out]; exact Nat.le_refl _
  have htn : (t.size : Int) = (n : Int) := by rw [HNN.out]
  subst hu
  go_enter Tryd.func59, Tryd.ntmps59
  go_wp2_with (at_make; refine wpList_make_full _ rfl _ _ 59 rfl w.heap.size 5 i0 (.int .u8 0) 1 Tryd.underlying59 hi hz0 hz1 _ _ _ _ n rfl rfl ?a1 ?a2 ?b1 ?b2 ?b3 ?_)
  case a1 => first | rfl | omega
  case a2 => first | rfl | omega
  case b1 => rw [hz2]; omega
  case b2 => unfold maxLen; omega
  case b3 => exact Nat.le_refl _
  intro W0 hown0 hgrow0
  rw [made_zero] at hown0
  have hb0 : Below w.heap.size w W0 := (Below.refl _ _).grown hgrow0 (Nat.le_refl _) (by intro k hk; cases hk)
  have HO0 : Hid (W0.ownsRow w.heap.size 5 1 (.slice (some ⟨w.heap.size, 0, none⟩) n n) n ((List.replicate n (0 : UInt8)).map bv)) := hown0
  have hgl : w.heap.size < W0.heap.size := (hown0.lt w.heap.size rfl).2
  clear hgrow0 hown0
  have HGU : Hid (Calls Tryd.prog 74 #[.int .i64 0, .slice (some ⟨w.heap.size, 0, none⟩) n n, .slice a2 ab.length cap2] W0 fun e w' => e = .returned (.func (.func 86) #[] #[]) ∧ Boxes w' W0.heap.size (.slice (some ⟨w.heap.size, 0, none⟩) n n) (.slice a2 ab.length cap2) ∧ Below W0.heap.size W0 w') := guesser_any 0 (by decide) _ _ W0 n n ab.length cap2 _ a2 rfl rfl
  have HGC : Hid (GuessC 0 86 #[] W0.heap.size (.slice (some ⟨w.heap.size, 0, none⟩) n n) (.slice a2 ab.length cap2)) := guess0 _ _ _
  go_wp2_with fail
  refine Calls.mono HGU.out ?_
  rintro e w1 ⟨rfl, hbx, hb1⟩
  have HBX : Hid (Boxes w1 W0.heap.size (.slice (some ⟨w.heap.size, 0, none⟩) n n) (.slice a2 ab.length cap2)) := hbx
  have HO1 : Hid (w1.ownsRow w.heap.size 5 1 (.slice (some ⟨w.heap.size, 0, none⟩) n n) n ((List.replicate n (0 : UInt8)).map bv)) := own_on2 HO0.out hb1
  have HA1 : Hid (RdB w1 (.slice a2 ab.length cap2) ab) := (HA.out.on hb0).on hb1
  have hbw1 : Below w.heap.size w w1 := hb0.trans (hb1.mono hb0.size)
  clear hbx HGU
  go_wp2_with fail
  go_loopw [19] (fun i wr => ∃ k : Nat, k ≤ n ∧ i = .int .i64 k ∧ Below w.heap.size w wr ∧ Hid (Boxes wr W0.heap.size (.slice (some ⟨w.heap.size, 0, none⟩) n n) (.slice a2 ab.length cap2)) ∧ Hid (wr.ownsRow w.heap.size 5 1 (.slice (some ⟨w.heap.size, 0, none⟩) n n) n ((Fb.restTo 0 t.data.toList ab k ++ List.replicate (n - k) 0).map bv))) (fun i _ => n - (intOf i).toNat)
  case atStart => exact ⟨0, by omega, rfl, hbw1, HBX, HO1⟩
  case round =>
    obtain ⟨k, hk, rfl, hb, HBR, HOWN⟩ := hrel
    by_cases hlt : k < n
    · have hkt : k < t.size := by omega
      obtain ⟨x, HX⟩ : ∃ x, Hid (t.data.toList.getD k 0 = x) := ⟨_, (rfl : _ = _)⟩
      obtain ⟨xx, HXX⟩ : ∃ m, Hid (x.toNat = m) := ⟨_, (rfl : _ = _)⟩
      have hix := nat_at t k x HX xx HXX
      have hxb := byte_le x xx HXX
      obtain ⟨cur, HCUR⟩ : ∃ l : List UInt8, Hid (Fb.restTo 0 t.data.toList ab k ++ List.replicate (n - k) 0 = l) := ⟨Fb.restTo 0 t.data.toList ab k ++ List.replicate (n - k) 0, by unfold Hid; rfl⟩
      have HCL : Hid (cur.length = n) := by unfold Hid; rw [← HCUR.out, List.length_append, Fb.restTo_len, List.length_replicate]; omega
      obtain ⟨y, HY⟩ : ∃ x, Hid (Fb.guessB 0 cur ab k = x) := ⟨_, (rfl : _ = _)⟩
      obtain ⟨yy, HYY⟩ : ∃ m, Hid (y.toNat = m) := ⟨_, (rfl : _ = _)⟩
      have hyb := byte_le y yy HYY
      obtain ⟨dd, HDD⟩ : ∃ m, Hid ((x + y).toNat = m) := ⟨_, (rfl : _ = _)⟩
      have HGE : Hid (Fb.guessB 0 (Fb.restTo 0 t.data.toList ab k) ab k = y) := by
        unfold Hid; rw [← HY.out, ← HCUR.out]
        exact Fb.guess_ahead 0 _ _ ab k (fun j hj => (Fb.getD_app _ _ _ (by rw [Fb.restTo_len]; exact hj)).symm)
      have hadd : IntKind.u8.wrap ((xx : Int) + (yy : Int)) = (dd : Int) := by rw [← HXX.out, ← HYY.out, ← HDD.out]; exact add_byte x y
      have hfz := HOWN.out.frozenAt k
      have hcg : wr.cell? ⟨w.heap.size, k, none⟩ = some (.int .u8 0) := by
        rw [HOWN.out.cellAt k (by omega), List.getElem?_map, List.getElem?_append_right (by rw [Fb.restTo_len]; omega), Fb.restTo_len, Nat.sub_self, show n - k = (n - k - 1) + 1 by omega, List.replicate_succ]; rfl
      have HRC : Hid (RdB wr (.slice (some ⟨w.heap.size, 0, none⟩) n n) cur) := by
        have h := HOWN.out
        rw [HCUR.out] at h
        have h2 : wr.ownsRow w.heap.size 5 1 (.slice (some ⟨w.heap.size, 0, none⟩) n n) cur.length (cur.map bv) := by rw [HCL.out]; exact h
        exact rdB_own h2
      have HAR : Hid (RdB wr (.slice a2 ab.length cap2) ab) := HA.out.on hb
      have HCALL : Hid (Calls Tryd.prog 86 #[.int .i64 (k : Int)] wr.drew fun e W' => e = .returned (.int .u8 (yy : Int)) ∧ ∃ q, W' = wr.drew.drewN q) := by
        have h := HGC.out wr.drew cur ab k (by omega) (by rw [HCL.out]; omega) HBR.out.drew HRC.out.drew HAR.out.drew
        rw [HY.out, HYY.out] at h
        exact h
      have HSET : Hid (∀ m, ((wr.drewN m).setCell ⟨w.heap.size, k, none⟩ (.int .u8 (dd : Int))).ownsRow w.heap.size 5 1 (.slice (some ⟨w.heap.size, 0, none⟩) n n) n ((Fb.restTo 0 t.data.toList ab (k + 1) ++ List.replicate (n - (k + 1)) 0).map bv)) := by
        unfold Hid
        intro m
        have h := ((owns_drewN HOWN.out m).stored k (.int .u8 (dd : Int))).1
        have e : (.int .u8 (dd : Int) : Value) = bv (x + y) := by unfold bv; rw [HDD.out]
        rw [e, set_row _ _ k n hlt (Fb.restTo_len _ _ _ _)] at h
        rw [e, Fb.restTo, HX.out, HGE.out]
        exact h
      have HBS : Hid (∀ m, Boxes ((wr.drewN m).setCell ⟨w.heap.size, k, none⟩ (.int .u8 (dd : Int))) W0.heap.size (.slice (some ⟨w.heap.size, 0, none⟩) n n) (.slice a2 ab.length cap2)) := fun m => (HBR.out.drewN m).store (by omega) (by omega) (by omega) (by omega)
      go_upto_region 6 with fail
      go_region_with (go_at_call 86; refine Calls.mono HCALL.out ?_; rintro e w3 ⟨rfl, q, rfl⟩)
      all_goals go_wp2_with fail
      all_goals (go_roundw; (case rel => exact ⟨k + 1, by omega, by go_num, (below_drewN hb _).setCell (Nat.le_refl _) _, HBS.out _, HSET.out _⟩); (case measure => simp [intOf]; omega))
    · have hkn : k = n := by omega
      have HOWN2 : Hid (wr.ownsRow w.heap.size 5 1 (.slice (some ⟨w.heap.size, 0, none⟩) n n) (Fb.restL 0 t.data.toList ab).length ((Fb.restL 0 t.data.toList ab).map bv)) := by
        unfold Hid
        have h := HOWN.out
        rw [hkn, Nat.sub_self] at h
        unfold Fb.restL
        rw [Fb.restTo_len, HN.out, HNN.out]
        simpa using h
      clear hkn
      go_wp2_with fail
      go_ret
      exact ⟨_, rfl, HOWN2.out, hb⟩

set_option maxHeartbeats 4000000 in
set_option maxRecDepth 100000 in
theorem restore1 (u : Value) (t : ByteArray) (ab : List UInt8) (w : World) (hlen : t.size ≤ 1000) (hpos : 0 < t.size) (HA : Hid (RdB w u ab)) :
    Calls Tryd.prog 59 #[.int .i64 1, .string t, u] w fun e w' => ∃ v, e = .returned v ∧ w'.ownsRow w.heap.size 5 1 v (Fb.restL 1 t.data.toList ab).length ((Fb.restL 1 t.data.toList ab).map bv) ∧ Below w.heap.size w w' := by
  obtain ⟨i0, hi, hz0, hz1, hz2⟩ := info_parts Tryd.infoByte
  obtain ⟨a2, cap2, hu, hl2, hc2, hh2⟩ := HA.out
  clear hl2 hh2
  have HN : Hid (t.data.toList.length = t.size) := by unfold Hid; simp
  obtain ⟨n, HNN⟩ : ∃ n, Hid (t.size = n) := ⟨_, (rfl : _ = _)⟩
  have hn1 : n ≤ t.size := by rw [HNN.out]; exact Nat.le_refl _
  have hn2 : t.size ≤ n := by rw [HNN.out]; exact Nat.le_refl _
  have htn : (t.size : Int) = (n : Int) := by rw [HNN.out]
  subst hu
  go_enter Tryd.func59, Tryd.ntmps59
  go_wp2_with (at_make; refine wpList_make_full _ rfl _ _ 59 rfl w.heap.size 5 i0 (.int .u8 0) 1 Tryd.underlying59 hi hz0 hz1 _ _ _ _ n rfl rfl ?a1 ?a2 ?b1 ?b2 ?b3 ?_)
  case a1 => first | rfl | omega
  case a2 => first | rfl | omega
  case b1 => rw [hz2]; omega
  case b2 => unfold maxLen; omega
  case b3 => exact Nat.le_refl _
  intro W0 hown0 hgrow0
  rw [made_zero] at hown0
  have hb0 : Below w.heap.size w W0 := (Below.refl _ _).grown hgrow0 (Nat.le_refl _) (by intro k hk; cases hk)
  have HO0 : Hid (W0.ownsRow w.heap.size 5 1 (.slice (some ⟨w.heap.size, 0, none⟩) n n) n ((List.replicate n (0 : UInt8)).map bv)) := hown0
  have hgl : w.heap.size < W0.heap.size := (hown0.lt w.heap.size rfl).2
  clear hgrow0 hown0
  have HGU : Hid (Calls Tryd.prog 74 #[.int .i64 1, .slice (some ⟨w.heap.size, 0, none⟩) n n, .slice a2 ab.length cap2] W0 fun e w' => e = .returned (.func (.func 83) #[] #[.pointer (some ⟨W0.heap.size, 0, none⟩)]) ∧ Boxes w' W0.heap.size (.slice (some ⟨w.heap.size, 0, none⟩) n n) (.slice a2 ab.length cap2) ∧ Below W0.heap.size W0 w') := guesser_any 1 (by decide) _ _ W0 n n ab.length cap2 _ a2 rfl rfl
  have HGC : Hid (GuessC 1 83 #[.pointer (some ⟨W0.heap.size, 0, none⟩)] W0.heap.size (.slice (some ⟨w.heap.size, 0, none⟩) n n) (.slice a2 ab.length cap2)) := guess1 _ _ _
  go_wp2_with fail
  refine Calls.mono HGU.out ?_
  rintro e w1 ⟨rfl, hbx, hb1⟩
  have HBX : Hid (Boxes w1 W0.heap.size (.slice (some ⟨w.heap.size, 0, none⟩) n n) (.slice a2 ab.length cap2)) := hbx
  have HO1 : Hid (w1.ownsRow w.heap.size 5 1 (.slice (some ⟨w.heap.size, 0, none⟩) n n) n ((List.replicate n (0 : UInt8)).map bv)) := own_on2 HO0.out hb1
  have HA1 : Hid (RdB w1 (.slice a2 ab.length cap2) ab) := (HA.out.on hb0).on hb1
  have hbw1 : Below w.heap.size w w1 := hb0.trans (hb1.mono hb0.size)
  clear hbx HGU
  go_wp2_with fail
  go_loopw [19] (fun i wr => ∃ k : Nat, k ≤ n ∧ i = .int .i64 k ∧ Below w.heap.size w wr ∧ Hid (Boxes wr W0.heap.size (.slice (some ⟨w.heap.size, 0, none⟩) n n) (.slice a2 ab.length cap2)) ∧ Hid (wr.ownsRow w.heap.size 5 1 (.slice (some ⟨w.heap.size, 0, none⟩) n n) n ((Fb.restTo 1 t.data.toList ab k ++ List.replicate (n - k) 0).map bv))) (fun i _ => n - (intOf i).toNat)
  case atStart => exact ⟨0, by omega, rfl, hbw1, HBX, HO1⟩
  case round =>
    obtain ⟨k, hk, rfl, hb, HBR, HOWN⟩ := hrel
    by_cases hlt : k < n
    · have hkt : k < t.size := by omega
      obtain ⟨x, HX⟩ : ∃ x, Hid (t.data.toList.getD k 0 = x) := ⟨_, (rfl : _ = _)⟩
      obtain ⟨xx, HXX⟩ : ∃ m, Hid (x.toNat = m) := ⟨_, (rfl : _ = _)⟩
      have hix := nat_at t k x HX xx HXX
      have hxb := byte_le x xx HXX
      obtain ⟨cur, HCUR⟩ : ∃ l : List UInt8, Hid (Fb.restTo 1 t.data.toList ab k ++ List.replicate (n - k) 0 = l) := ⟨Fb.restTo 1 t.data.toList ab k ++ List.replicate (n - k) 0, by unfold Hid; rfl⟩
      have HCL : Hid (cur.length = n) := by unfold Hid; rw [← HCUR.out, List.length_append, Fb.restTo_len, List.length_replicate]; omega
      obtain ⟨y, HY⟩ : ∃ x, Hid (Fb.guessB 1 cur ab k = x) := ⟨_, (rfl : _ = _)⟩
      obtain ⟨yy, HYY⟩ : ∃ m, Hid (y.toNat = m) := ⟨_, (rfl : _ = _)⟩
      have hyb := byte_le y yy HYY
      obtain ⟨dd, HDD⟩ : ∃ m, Hid ((x + y).toNat = m) := ⟨_, (rfl : _ = _)⟩
      have HGE : Hid (Fb.guessB 1 (Fb.restTo 1 t.data.toList ab k) ab k = y) := by
        unfold Hid; rw [← HY.out, ← HCUR.out]
        exact Fb.guess_ahead 1 _ _ ab k (fun j hj => (Fb.getD_app _ _ _ (by rw [Fb.restTo_len]; exact hj)).symm)
      have hadd : IntKind.u8.wrap ((xx : Int) + (yy : Int)) = (dd : Int) := by rw [← HXX.out, ← HYY.out, ← HDD.out]; exact add_byte x y
      have hfz := HOWN.out.frozenAt k
      have hcg : wr.cell? ⟨w.heap.size, k, none⟩ = some (.int .u8 0) := by
        rw [HOWN.out.cellAt k (by omega), List.getElem?_map, List.getElem?_append_right (by rw [Fb.restTo_len]; omega), Fb.restTo_len, Nat.sub_self, show n - k = (n - k - 1) + 1 by omega, List.replicate_succ]; rfl
      have HRC : Hid (RdB wr (.slice (some ⟨w.heap.size, 0, none⟩) n n) cur) := by
        have h := HOWN.out
        rw [HCUR.out] at h
        have h2 : wr.ownsRow w.heap.size 5 1 (.slice (some ⟨w.heap.size, 0, none⟩) n n) cur.length (cur.map bv) := by rw [HCL.out]; exact h
        exact rdB_own h2
      have HAR : Hid (RdB wr (.slice a2 ab.length cap2) ab) := HA.out.on hb
      have HCALL : Hid (Calls Tryd.prog 83 #[.int .i64 (k : Int), .pointer (some ⟨W0.heap.size, 0, none⟩)] wr.drew fun e W' => e = .returned (.int .u8 (yy : Int)) ∧ ∃ q, W' = wr.drew.drewN q) := by
        have h := HGC.out wr.drew cur ab k (by omega) (by rw [HCL.out]; omega) HBR.out.drew HRC.out.drew HAR.out.drew
        rw [HY.out, HYY.out] at h
        exact h
      have HSET : Hid (∀ m, ((wr.drewN m).setCell ⟨w.heap.size, k, none⟩ (.int .u8 (dd : Int))).ownsRow w.heap.size 5 1 (.slice (some ⟨w.heap.size, 0, none⟩) n n) n ((Fb.restTo 1 t.data.toList ab (k + 1) ++ List.replicate (n - (k + 1)) 0).map bv)) := by
        unfold Hid
        intro m
        have h := ((owns_drewN HOWN.out m).stored k (.int .u8 (dd : Int))).1
        have e : (.int .u8 (dd : Int) : Value) = bv (x + y) := by unfold bv; rw [HDD.out]
        rw [e, set_row _ _ k n hlt (Fb.restTo_len _ _ _ _)] at h
        rw [e, Fb.restTo, HX.out, HGE.out]
        exact h
      have HBS : Hid (∀ m, Boxes ((wr.drewN m).setCell ⟨w.heap.size, k, none⟩ (.int .u8 (dd : Int))) W0.heap.size (.slice (some ⟨w.heap.size, 0, none⟩) n n) (.slice a2 ab.length cap2)) := fun m => (HBR.out.drewN m).store (by omega) (by omega) (by omega) (by omega)
      go_upto_region 6 with fail
      go_region_with (go_at_call 83; refine Calls.mono HCALL.out ?_; rintro e w3 ⟨rfl, q, rfl⟩)
      all_goals go_wp2_with fail
      all_goals (go_roundw; (case rel => exact ⟨k + 1, by omega, by go_num, (below_drewN hb _).setCell (Nat.le_refl _) _, HBS.out _, HSET.out _⟩); (case measure => simp [intOf]; omega))
    · have hkn : k = n := by omega
      have HOWN2 : Hid (wr.ownsRow w.heap.size 5 1 (.slice (some ⟨w.heap.size, 0, none⟩) n n) (Fb.restL 1 t.data.toList ab).length ((Fb.restL 1 t.data.toList ab).map bv)) := by
        unfold Hid
        have h := HOWN.out
        rw [hkn, Nat.sub_self] at h
        unfold Fb.restL
        rw [Fb.restTo_len, HN.out, HNN.out]
        simpa using h
      clear hkn
      go_wp2_with fail
      go_ret
      exact ⟨_, rfl, HOWN2.out, hb⟩

set_option maxHeartbeats 4000000 in
set_option maxRecDepth 100000 in
theorem restore2 (u : Value) (t : ByteArray) (ab : List UInt8) (w : World) (hlen : t.size ≤ 1000) (hpos : 0 < t.size) (HA : Hid (RdB w u ab)) :
    Calls Tryd.prog 59 #[.int .i64 2, .string t, u] w fun e w' => ∃ v, e = .returned v ∧ w'.ownsRow w.heap.size 5 1 v (Fb.restL 2 t.data.toList ab).length ((Fb.restL 2 t.data.toList ab).map bv) ∧ Below w.heap.size w w' := by
  obtain ⟨i0, hi, hz0, hz1, hz2⟩ := info_parts Tryd.infoByte
  obtain ⟨a2, cap2, hu, hl2, hc2, hh2⟩ := HA.out
  clear hl2 hh2
  have HN : Hid (t.data.toList.length = t.size) := by unfold Hid; simp
  obtain ⟨n, HNN⟩ : ∃ n, Hid (t.size = n) := ⟨_, (rfl : _ = _)⟩
  have hn1 : n ≤ t.size := by rw [HNN.out]; exact Nat.le_refl _
  have hn2 : t.size ≤ n := by rw [HNN.out]; exact Nat.le_refl _
  have htn : (t.size : Int) = (n : Int) := by rw [HNN.out]
  subst hu
  go_enter Tryd.func59, Tryd.ntmps59
  go_wp2_with (at_make; refine wpList_make_full _ rfl _ _ 59 rfl w.heap.size 5 i0 (.int .u8 0) 1 Tryd.underlying59 hi hz0 hz1 _ _ _ _ n rfl rfl ?a1 ?a2 ?b1 ?b2 ?b3 ?_)
  case a1 => first | rfl | omega
  case a2 => first | rfl | omega
  case b1 => rw [hz2]; omega
  case b2 => unfold maxLen; omega
  case b3 => exact Nat.le_refl _
  intro W0 hown0 hgrow0
  rw [made_zero] at hown0
  have hb0 : Below w.heap.size w W0 := (Below.refl _ _).grown hgrow0 (Nat.le_refl _) (by intro k hk; cases hk)
  have HO0 : Hid (W0.ownsRow w.heap.size 5 1 (.slice (some ⟨w.heap.size, 0, none⟩) n n) n ((List.replicate n (0 : UInt8)).map bv)) := hown0
  have hgl : w.heap.size < W0.heap.size := (hown0.lt w.heap.size rfl).2
  clear hgrow0 hown0
  have HGU : Hid (Calls Tryd.prog 74 #[.int .i64 2, .slice (some ⟨w.heap.size, 0, none⟩) n n, .slice a2 ab.length cap2] W0 fun e w' => e = .returned (.func (.func 84) #[] #[.pointer (some ⟨W0.heap.size + 1, 0, none⟩)]) ∧ Boxes w' W0.heap.size (.slice (some ⟨w.heap.size, 0, none⟩) n n) (.slice a2 ab.length cap2) ∧ Below W0.heap.size W0 w') := guesser_any 2 (by decide) _ _ W0 n n ab.length cap2 _ a2 rfl rfl
  have HGC : Hid (GuessC 2 84 #[.pointer (some ⟨W0.heap.size + 1, 0, none⟩)] W0.heap.size (.slice (some ⟨w.heap.size, 0, none⟩) n n) (.slice a2 ab.length cap2)) := guess2 _ _ _
  go_wp2_with fail
  refine Calls.mono HGU.out ?_
  rintro e w1 ⟨rfl, hbx, hb1⟩
  have HBX : Hid (Boxes w1 W0.heap.size (.slice (some ⟨w.heap.size, 0, none⟩) n n) (.slice a2 ab.length cap2)) := hbx
  have HO1 : Hid (w1.ownsRow w.heap.size 5 1 (.slice (some ⟨w.heap.size, 0, none⟩) n n) n ((List.replicate n (0 : UInt8)).map bv)) := own_on2 HO0.out hb1
  have HA1 : Hid (RdB w1 (.slice a2 ab.length cap2) ab) := (HA.out.on hb0).on hb1
  have hbw1 : Below w.heap.size w w1 := hb0.trans (hb1.mono hb0.size)
  clear hbx HGU
  go_wp2_with fail
  go_loopw [19] (fun i wr => ∃ k : Nat, k ≤ n ∧ i = .int .i64 k ∧ Below w.heap.size w wr ∧ Hid (Boxes wr W0.heap.size (.slice (some ⟨w.heap.size, 0, none⟩) n n) (.slice a2 ab.length cap2)) ∧ Hid (wr.ownsRow w.heap.size 5 1 (.slice (some ⟨w.heap.size, 0, none⟩) n n) n ((Fb.restTo 2 t.data.toList ab k ++ List.replicate (n - k) 0).map bv))) (fun i _ => n - (intOf i).toNat)
  case atStart => exact ⟨0, by omega, rfl, hbw1, HBX, HO1⟩
  case round =>
    obtain ⟨k, hk, rfl, hb, HBR, HOWN⟩ := hrel
    by_cases hlt : k < n
    · have hkt : k < t.size := by omega
      obtain ⟨x, HX⟩ : ∃ x, Hid (t.data.toList.getD k 0 = x) := ⟨_, (rfl : _ = _)⟩
      obtain ⟨xx, HXX⟩ : ∃ m, Hid (x.toNat = m) := ⟨_, (rfl : _ = _)⟩
      have hix := nat_at t k x HX xx HXX
      have hxb := byte_le x xx HXX
      obtain ⟨cur, HCUR⟩ : ∃ l : List UInt8, Hid (Fb.restTo 2 t.data.toList ab k ++ List.replicate (n - k) 0 = l) := ⟨Fb.restTo 2 t.data.toList ab k ++ List.replicate (n - k) 0, by unfold Hid; rfl⟩
      have HCL : Hid (cur.length = n) := by unfold Hid; rw [← HCUR.out, List.length_append, Fb.restTo_len, List.length_replicate]; omega
      obtain ⟨y, HY⟩ : ∃ x, Hid (Fb.guessB 2 cur ab k = x) := ⟨_, (rfl : _ = _)⟩
      obtain ⟨yy, HYY⟩ : ∃ m, Hid (y.toNat = m) := ⟨_, (rfl : _ = _)⟩
      have hyb := byte_le y yy HYY
      obtain ⟨dd, HDD⟩ : ∃ m, Hid ((x + y).toNat = m) := ⟨_, (rfl : _ = _)⟩
      have HGE : Hid (Fb.guessB 2 (Fb.restTo 2 t.data.toList ab k) ab k = y) := by
        unfold Hid; rw [← HY.out, ← HCUR.out]
        exact Fb.guess_ahead 2 _ _ ab k (fun j hj => (Fb.getD_app _ _ _ (by rw [Fb.restTo_len]; exact hj)).symm)
      have hadd : IntKind.u8.wrap ((xx : Int) + (yy : Int)) = (dd : Int) := by rw [← HXX.out, ← HYY.out, ← HDD.out]; exact add_byte x y
      have hfz := HOWN.out.frozenAt k
      have hcg : wr.cell? ⟨w.heap.size, k, none⟩ = some (.int .u8 0) := by
        rw [HOWN.out.cellAt k (by omega), List.getElem?_map, List.getElem?_append_right (by rw [Fb.restTo_len]; omega), Fb.restTo_len, Nat.sub_self, show n - k = (n - k - 1) + 1 by omega, List.replicate_succ]; rfl
      have HRC : Hid (RdB wr (.slice (some ⟨w.heap.size, 0, none⟩) n n) cur) := by
        have h := HOWN.out
        rw [HCUR.out] at h
        have h2 : wr.ownsRow w.heap.size 5 1 (.slice (some ⟨w.heap.size, 0, none⟩) n n) cur.length (cur.map bv) := by rw [HCL.out]; exact h
        exact rdB_own h2
      have HAR : Hid (RdB wr (.slice a2 ab.length cap2) ab) := HA.out.on hb
      have HCALL : Hid (Calls Tryd.prog 84 #[.int .i64 (k : Int), .pointer (some ⟨W0.heap.size + 1, 0, none⟩)] wr.drew fun e W' => e = .returned (.int .u8 (yy : Int)) ∧ ∃ q, W' = wr.drew.drewN q) := by
        have h := HGC.out wr.drew cur ab k (by omega) (by rw [HCL.out]; omega) HBR.out.drew HRC.out.drew HAR.out.drew
        rw [HY.out, HYY.out] at h
        exact h
      have HSET : Hid (∀ m, ((wr.drewN m).setCell ⟨w.heap.size, k, none⟩ (.int .u8 (dd : Int))).ownsRow w.heap.size 5 1 (.slice (some ⟨w.heap.size, 0, none⟩) n n) n ((Fb.restTo 2 t.data.toList ab (k + 1) ++ List.replicate (n - (k + 1)) 0).map bv)) := by
        unfold Hid
        intro m
        have h := ((owns_drewN HOWN.out m).stored k (.int .u8 (dd : Int))).1
        have e : (.int .u8 (dd : Int) : Value) = bv (x + y) := by unfold bv; rw [HDD.out]
        rw [e, set_row _ _ k n hlt (Fb.restTo_len _ _ _ _)] at h
        rw [e, Fb.restTo, HX.out, HGE.out]
        exact h
      have HBS : Hid (∀ m, Boxes ((wr.drewN m).setCell ⟨w.heap.size, k, none⟩ (.int .u8 (dd : Int))) W0.heap.size (.slice (some ⟨w.heap.size, 0, none⟩) n n) (.slice a2 ab.length cap2)) := fun m => (HBR.out.drewN m).store (by omega) (by omega) (by omega) (by omega)
      go_upto_region 6 with fail
      go_region_with (go_at_call 84; refine Calls.mono HCALL.out ?_; rintro e w3 ⟨rfl, q, rfl⟩)
      all_goals go_wp2_with fail
      all_goals (go_roundw; (case rel => exact ⟨k + 1, by omega, by go_num, (below_drewN hb _).setCell (Nat.le_refl _) _, HBS.out _, HSET.out _⟩); (case measure => simp [intOf]; omega))
    · have hkn : k = n := by omega
      have HOWN2 : Hid (wr.ownsRow w.heap.size 5 1 (.slice (some ⟨w.heap.size, 0, none⟩) n n) (Fb.restL 2 t.data.toList ab).length ((Fb.restL 2 t.data.toList ab).map bv)) := by
        unfold Hid
        have h := HOWN.out
        rw [hkn, Nat.sub_self] at h
        unfold Fb.restL
        rw [Fb.restTo_len, HN.out, HNN.out]
        simpa using h
      clear hkn
      go_wp2_with fail
      go_ret
      exact ⟨_, rfl, HOWN2.out, hb⟩

set_option maxHeartbeats 4000000 in
set_option maxRecDepth 100000 in
theorem restore3 (u : Value) (t : ByteArray) (ab : List UInt8) (w : World) (hlen : t.size ≤ 1000) (hpos : 0 < t.size) (HA : Hid (RdB w u ab)) :
    Calls Tryd.prog 59 #[.int .i64 3, .string t, u] w fun e w' => ∃ v, e = .returned v ∧ w'.ownsRow w.heap.size 5 1 v (Fb.restL 3 t.data.toList ab).length ((Fb.restL 3 t.data.toList ab).map bv) ∧ Below w.heap.size w w' := by
  obtain ⟨i0, hi, hz0, hz1, hz2⟩ := info_parts Tryd.infoByte
  obtain ⟨a2, cap2, hu, hl2, hc2, hh2⟩ := HA.out
  clear hl2 hh2
  have HN : Hid (t.data.toList.length = t.size) := by unfold Hid; simp
  obtain ⟨n, HNN⟩ : ∃ n, Hid (t.size = n) := ⟨_, (rfl : _ = _)⟩
  have hn1 : n ≤ t.size := by rw [HNN.out]; exact Nat.le_refl _
  have hn2 : t.size ≤ n := by rw [HNN.out]; exact Nat.le_refl _
  have htn : (t.size : Int) = (n : Int) := by rw [HNN.out]
  subst hu
  go_enter Tryd.func59, Tryd.ntmps59
  go_wp2_with (at_make; refine wpList_make_full _ rfl _ _ 59 rfl w.heap.size 5 i0 (.int .u8 0) 1 Tryd.underlying59 hi hz0 hz1 _ _ _ _ n rfl rfl ?a1 ?a2 ?b1 ?b2 ?b3 ?_)
  case a1 => first | rfl | omega
  case a2 => first | rfl | omega
  case b1 => rw [hz2]; omega
  case b2 => unfold maxLen; omega
  case b3 => exact Nat.le_refl _
  intro W0 hown0 hgrow0
  rw [made_zero] at hown0
  have hb0 : Below w.heap.size w W0 := (Below.refl _ _).grown hgrow0 (Nat.le_refl _) (by intro k hk; cases hk)
  have HO0 : Hid (W0.ownsRow w.heap.size 5 1 (.slice (some ⟨w.heap.size, 0, none⟩) n n) n ((List.replicate n (0 : UInt8)).map bv)) := hown0
  have hgl : w.heap.size < W0.heap.size := (hown0.lt w.heap.size rfl).2
  clear hgrow0 hown0
  have HGU : Hid (Calls Tryd.prog 74 #[.int .i64 3, .slice (some ⟨w.heap.size, 0, none⟩) n n, .slice a2 ab.length cap2] W0 fun e w' => e = .returned (.func (.func 85) #[] #[.pointer (some ⟨W0.heap.size + 2, 0, none⟩), .pointer (some ⟨W0.heap.size + 3, 0, none⟩)]) ∧ Boxes w' W0.heap.size (.slice (some ⟨w.heap.size, 0, none⟩) n n) (.slice a2 ab.length cap2) ∧ Below W0.heap.size W0 w') := guesser_any 3 (by decide) _ _ W0 n n ab.length cap2 _ a2 rfl rfl
  have HGC : Hid (GuessC 3 85 #[.pointer (some ⟨W0.heap.size + 2, 0, none⟩), .pointer (some ⟨W0.heap.size + 3, 0, none⟩)] W0.heap.size (.slice (some ⟨w.heap.size, 0, none⟩) n n) (.slice a2 ab.length cap2)) := guess3 _ _ _
  go_wp2_with fail
  refine Calls.mono HGU.out ?_
  rintro e w1 ⟨rfl, hbx, hb1⟩
  have HBX : Hid (Boxes w1 W0.heap.size (.slice (some ⟨w.heap.size, 0, none⟩) n n) (.slice a2 ab.length cap2)) := hbx
  have HO1 : Hid (w1.ownsRow w.heap.size 5 1 (.slice (some ⟨w.heap.size, 0, none⟩) n n) n ((List.replicate n (0 : UInt8)).map bv)) := own_on2 HO0.out hb1
  have HA1 : Hid (RdB w1 (.slice a2 ab.length cap2) ab) := (HA.out.on hb0).on hb1
  have hbw1 : Below w.heap.size w w1 := hb0.trans (hb1.mono hb0.size)
  clear hbx HGU
  go_wp2_with fail
  go_loopw [19] (fun i wr => ∃ k : Nat, k ≤ n ∧ i = .int .i64 k ∧ Below w.heap.size w wr ∧ Hid (Boxes wr W0.heap.size (.slice (some ⟨w.heap.size, 0, none⟩) n n) (.slice a2 ab.length cap2)) ∧ Hid (wr.ownsRow w.heap.size 5 1 (.slice (some ⟨w.heap.size, 0, none⟩) n n) n ((Fb.restTo 3 t.data.toList ab k ++ List.replicate (n - k) 0).map bv))) (fun i _ => n - (intOf i).toNat)
  case atStart => exact ⟨0, by omega, rfl, hbw1, HBX, HO1⟩
  case round =>
    obtain ⟨k, hk, rfl, hb, HBR, HOWN⟩ := hrel
    by_cases hlt : k < n
    · have hkt : k < t.size := by omega
      obtain ⟨x, HX⟩ : ∃ x, Hid (t.data.toList.getD k 0 = x) := ⟨_, (rfl : _ = _)⟩
      obtain ⟨xx, HXX⟩ : ∃ m, Hid (x.toNat = m) := ⟨_, (rfl : _ = _)⟩
      have hix := nat_at t k x HX xx HXX
      have hxb := byte_le x xx HXX
      obtain ⟨cur, HCUR⟩ : ∃ l : List UInt8, Hid (Fb.restTo 3 t.data.toList ab k ++ List.replicate (n - k) 0 = l) := ⟨Fb.restTo 3 t.data.toList ab k ++ List.replicate (n - k) 0, by unfold Hid; rfl⟩
      have HCL : Hid (cur.length = n) := by unfold Hid; rw [← HCUR.out, List.length_append, Fb.restTo_len, List.length_replicate]; omega
      obtain ⟨y, HY⟩ : ∃ x, Hid (Fb.guessB 3 cur ab k = x) := ⟨_, (rfl : _ = _)⟩
      obtain ⟨yy, HYY⟩ : ∃ m, Hid (y.toNat = m) := ⟨_, (rfl : _ = _)⟩
      have hyb := byte_le y yy HYY
      obtain ⟨dd, HDD⟩ : ∃ m, Hid ((x + y).toNat = m) := ⟨_, (rfl : _ = _)⟩
      have HGE : Hid (Fb.guessB 3 (Fb.restTo 3 t.data.toList ab k) ab k = y) := by
        unfold Hid; rw [← HY.out, ← HCUR.out]
        exact Fb.guess_ahead 3 _ _ ab k (fun j hj => (Fb.getD_app _ _ _ (by rw [Fb.restTo_len]; exact hj)).symm)
      have hadd : IntKind.u8.wrap ((xx : Int) + (yy : Int)) = (dd : Int) := by rw [← HXX.out, ← HYY.out, ← HDD.out]; exact add_byte x y
      have hfz := HOWN.out.frozenAt k
      have hcg : wr.cell? ⟨w.heap.size, k, none⟩ = some (.int .u8 0) := by
        rw [HOWN.out.cellAt k (by omega), List.getElem?_map, List.getElem?_append_right (by rw [Fb.restTo_len]; omega), Fb.restTo_len, Nat.sub_self, show n - k = (n - k - 1) + 1 by omega, List.replicate_succ]; rfl
      have HRC : Hid (RdB wr (.slice (some ⟨w.heap.size, 0, none⟩) n n) cur) := by
        have h := HOWN.out
        rw [HCUR.out] at h
        have h2 : wr.ownsRow w.heap.size 5 1 (.slice (some ⟨w.heap.size, 0, none⟩) n n) cur.length (cur.map bv) := by rw [HCL.out]; exact h
        exact rdB_own h2
      have HAR : Hid (RdB wr (.slice a2 ab.length cap2) ab) := HA.out.on hb
      have HCALL : Hid (Calls Tryd.prog 85 #[.int .i64 (k : Int), .pointer (some ⟨W0.heap.size + 2, 0, none⟩), .pointer (some ⟨W0.heap.size + 3, 0, none⟩)] wr.drew fun e W' => e = .returned (.int .u8 (yy : Int)) ∧ ∃ q, W' = wr.drew.drewN q) := by
        have h := HGC.out wr.drew cur ab k (by omega) (by rw [HCL.out]; omega) HBR.out.drew HRC.out.drew HAR.out.drew
        rw [HY.out, HYY.out] at h
        exact h
      have HSET : Hid (∀ m, ((wr.drewN m).setCell ⟨w.heap.size, k, none⟩ (.int .u8 (dd : Int))).ownsRow w.heap.size 5 1 (.slice (some ⟨w.heap.size, 0, none⟩) n n) n ((Fb.restTo 3 t.data.toList ab (k + 1) ++ List.replicate (n - (k + 1)) 0).map bv)) := by
        unfold Hid
        intro m
        have h := ((owns_drewN HOWN.out m).stored k (.int .u8 (dd : Int))).1
        have e : (.int .u8 (dd : Int) : Value) = bv (x + y) := by unfold bv; rw [HDD.out]
        rw [e, set_row _ _ k n hlt (Fb.restTo_len _ _ _ _)] at h
        rw [e, Fb.restTo, HX.out, HGE.out]
        exact h
      have HBS : Hid (∀ m, Boxes ((wr.drewN m).setCell ⟨w.heap.size, k, none⟩ (.int .u8 (dd : Int))) W0.heap.size (.slice (some ⟨w.heap.size, 0, none⟩) n n) (.slice a2 ab.length cap2)) := fun m => (HBR.out.drewN m).store (by omega) (by omega) (by omega) (by omega)
      go_upto_region 6 with fail
      go_region_with (go_at_call 85; refine Calls.mono HCALL.out ?_; rintro e w3 ⟨rfl, q, rfl⟩)
      all_goals go_wp2_with fail
      all_goals (go_roundw; (case rel => exact ⟨k + 1, by omega, by go_num, (below_drewN hb _).setCell (Nat.le_refl _) _, HBS.out _, HSET.out _⟩); (case measure => simp [intOf]; omega))
    · have hkn : k = n := by omega
      have HOWN2 : Hid (wr.ownsRow w.heap.size 5 1 (.slice (some ⟨w.heap.size, 0, none⟩) n n) (Fb.restL 3 t.data.toList ab).length ((Fb.restL 3 t.data.toList ab).map bv)) := by
        unfold Hid
        have h := HOWN.out
        rw [hkn, Nat.sub_self] at h
        unfold Fb.restL
        rw [Fb.restTo_len, HN.out, HNN.out]
        simpa using h
      clear hkn
      go_wp2_with fail
      go_ret
      exact ⟨_, rfl, HOWN2.out, hb⟩

set_option maxRecDepth 100000 in
theorem restore_any (way : Nat) (hway : way < 4) (u : Value) (t : ByteArray) (ab : List UInt8) (w : World) (hlen : t.size ≤ 1000) (hpos : 0 < t.size) (HA : RdB w u ab) :
    Calls Tryd.prog 59 #[.int .i64 (way : Int), .string t, u] w fun e w' => ∃ v, e = .returned v ∧ w'.ownsRow w.heap.size 5 1 v (Fb.restL way t.data.toList ab).length ((Fb.restL way t.data.toList ab).map bv) ∧ Below w.heap.size w w' := by
  have h4 : way = 0 ∨ way = 1 ∨ way = 2 ∨ way = 3 := by omega
  rcases h4 with rfl | rfl | rfl | rfl
  · exact restore0 u t ab w hlen hpos HA
  · exact restore1 u t ab w hlen hpos HA
  · exact restore2 u t ab w hlen hpos HA
  · exact restore3 u t ab w hlen hpos HA
end Go.Proofs.YtfhfedcamcpceaaDoor
/- Walks of picture's isSide, isShade and Check. -/
namespace Go.Proofs.YtfhfedcamcpceaaDoor
open Go.RowKit

def sideB (n : Int) : Bool := decide (1 ≤ n) && decide (n ≤ 8)
def shadeB (n : Int) : Bool := decide (0 ≤ n) && decide (n ≤ 255)

set_option maxRecDepth 100000 in
theorem side_any (n : Int) (w : World) (b : Bool) (HB : Hid (sideB n = b)) : Calls Tryd.prog 57 #[.int .i64 n] w fun e w' => e = .returned (.bool b) ∧ w = w' := by
  by_cases h1 : 1 ≤ n
  · by_cases h2 : n ≤ 8
    · have hb : b = true := by rw [← HB.out]; unfold sideB; simp [h1, h2]
      subst hb
      go_enter Tryd.func57, Tryd.ntmps57
      go_wp2
      go_ret
      exact ⟨by simp, rfl⟩
    · have hb : b = false := by rw [← HB.out]; unfold sideB; simp [h2]
      subst hb
      go_enter Tryd.func57, Tryd.ntmps57
      go_wp2
      go_ret
      exact ⟨by simp, rfl⟩
  · have hb : b = false := by rw [← HB.out]; unfold sideB; simp [h1]
    subst hb
    go_enter Tryd.func57, Tryd.ntmps57
    go_wp2
    go_ret
    exact ⟨rfl, rfl⟩

set_option maxRecDepth 100000 in
theorem shade_any (n : Int) (w : World) (b : Bool) (HB : Hid (shadeB n = b)) : Calls Tryd.prog 65 #[.int .i64 n] w fun e w' => e = .returned (.bool b) ∧ w = w' := by
  by_cases h1 : 0 ≤ n
  · by_cases h2 : n ≤ 255
    · have hb : b = true := by rw [← HB.out]; unfold shadeB; simp [h1, h2]
      subst hb
      go_enter Tryd.func65, Tryd.ntmps65
      go_wp2
      go_ret
      exact ⟨by simp, rfl⟩
    · have hb : b = false := by rw [← HB.out]; unfold shadeB; simp [h2]
      subst hb
      go_enter Tryd.func65, Tryd.ntmps65
      go_wp2
      go_ret
      exact ⟨by simp, rfl⟩
  · have hb : b = false := by rw [← HB.out]; unfold shadeB; simp [h1]
    subst hb
    go_enter Tryd.func65, Tryd.ntmps65
    go_wp2
    go_ret
    exact ⟨rfl, rfl⟩

/-- a list of pixels: so many elements, each with its two numbers in memory -/
def RdP (w : World) (v : Value) (ps : List (Int × Int)) : Prop :=
  ∃ a cap, v = .slice a ps.length cap ∧ ps.length ≤ cap ∧ cap ≤ 9223372036854775807 ∧ (ps ≠ [] → ∃ g off, a = some ⟨g, off, none⟩ ∧ g < w.heap.size ∧
    ∀ j, j < ps.length → w.cell? ⟨g, off + j * 2, none⟩ = some (.int .i64 (ps.getD j (0, 0)).1) ∧ w.cell? ⟨g, off + j * 2 + 1, none⟩ = some (.int .i64 (ps.getD j (0, 0)).2))

set_option maxRecDepth 100000 in
theorem RdP.on {w w' : World} {v : Value} {ps : List (Int × Int)} (h : RdP w v ps) (hb : Below w.heap.size w w') : RdP w' v ps := by
  obtain ⟨a, cap, hv, hl, hc, hh⟩ := h
  refine ⟨a, cap, hv, hl, hc, fun hne => ?_⟩
  obtain ⟨g, off, ha, hg, hcell⟩ := hh hne
  refine ⟨g, off, ha, Nat.lt_of_lt_of_le hg hb.size, fun j hj => ?_⟩
  rw [hb.cell (p := ⟨g, off + j * 2, none⟩) hg, hb.cell (p := ⟨g, off + j * 2 + 1, none⟩) hg]
  exact hcell j hj

def okPix (p : Int × Int) : Bool := shadeB p.1 && shadeB p.2

/-- Check's answer -/
def checkL (W H : Int) (ps : List (Int × Int)) : Nat :=
  if sideB W = false ∨ sideB H = false then 1 else if (ps.length : Int) ≠ W * H then 3 else if ps.all okPix then 0 else 1

set_option maxRecDepth 100000 in
theorem drop_pix (l : List (Int × Int)) (k : Nat) (h : k < l.length) : l.drop k = l.getD k (0, 0) :: l.drop (k + 1) := by
  rw [List.drop_eq_getElem_cons h]
  simp only [List.getD_eq_getElem?_getD, List.getElem?_eq_getElem h]
  rfl

set_option maxRecDepth 100000 in
theorem errV_one : errV 1 = .iface 69 (.int .i64 1) := rfl
set_option maxRecDepth 100000 in
theorem errV_three : errV 3 = .iface 69 (.int .i64 3) := rfl

set_option maxHeartbeats 2000000 in
set_option maxRecDepth 100000 in
theorem check_any (W H : Int) (v : Value) (ps : List (Int × Int)) (w : World) (hps : ps.length ≤ 1000000000) (HR : Hid (RdP w v ps)) (c : Nat) (HC : Hid (checkL W H ps = c)) :
    Calls Tryd.prog 38 #[.agg #[.int .i64 W, .int .i64 H, v]] w fun e w' => e = .returned (errV c) ∧ Below w.heap.size w w' := by
  cases hw : sideB W with
  | false =>
    have HW : Hid (sideB W = false) := hw
    have hc : c = 1 := by rw [← HC.out]; unfold checkL; rw [if_pos (.inl hw)]
    subst hc
    clear hw
    go_enter Tryd.func38, Tryd.ntmps38
    go_wp2_with fail
    refine (side_any W _ false HW).mono ?_
    rintro e w1 ⟨rfl, rfl⟩
    go_wp2_with fail
    go_ret
    exact ⟨rfl, (Below.refl _ _).alloc (Nat.le_refl _) _⟩
  | true =>
    have HW : Hid (sideB W = true) := hw
    cases hh : sideB H with
    | false =>
      have HH : Hid (sideB H = false) := hh
      have hc : c = 1 := by rw [← HC.out]; unfold checkL; rw [if_pos (.inr hh)]
      subst hc
      clear hw hh
      go_enter Tryd.func38, Tryd.ntmps38
      go_wp2_with fail
      refine (side_any W _ true HW).mono ?_
      rintro e w1 ⟨rfl, rfl⟩
      go_wp2_with fail
      refine (side_any H _ false HH).mono ?_
      rintro e w1 ⟨rfl, rfl⟩
      go_wp2_with fail
      go_ret
      exact ⟨rfl, (Below.refl _ _).alloc (Nat.le_refl _) _⟩
    | true =>
      have HH : Hid (sideB H = true) := hh
      have hW1 : 1 ≤ W ∧ W ≤ 8 := by unfold sideB at hw; simpa using hw
      have hH1 : 1 ≤ H ∧ H ≤ 8 := by unfold sideB at hh; simpa using hh
      obtain ⟨hW1, hW8⟩ := hW1
      obtain ⟨hH1, hH8⟩ := hH1
      have HC2 : Hid ((if (ps.length : Int) ≠ W * H then 3 else if ps.all okPix then 0 else 1) = c) := by
        unfold Hid; rw [← HC.out]; unfold checkL; simp only [hw, hh]; simp
      clear hw hh
      obtain ⟨M, HM⟩ : ∃ M : Nat, Hid (W * H = (M : Int)) := ⟨(W * H).toNat, by unfold Hid; have := Int.mul_nonneg (show 0 ≤ W by omega) (show 0 ≤ H by omega); omega⟩
      have hm64 : M ≤ 64 := by
        have h1 : W * H ≤ 8 * 8 := Int.mul_le_mul hW8 hH8 (by omega) (by omega)
        have := HM.out; omega
      have hm1 : 1 ≤ M := by
        have h1 : 1 * 1 ≤ W * H := Int.mul_le_mul hW1 hH1 (by omega) (by omega)
        have := HM.out; omega
      have hmul : W * H = (M : Int) := HM.out
      obtain ⟨a, cap, rfl, hcap, hcap2, HCL⟩ := HR.out
      have HCL' : Hid (ps ≠ [] → ∃ g off, a = some ⟨g, off, none⟩ ∧ g < w.heap.size ∧ ∀ j, j < ps.length → w.cell? ⟨g, off + j * 2, none⟩ = some (.int .i64 (ps.getD j (0, 0)).1) ∧ w.cell? ⟨g, off + j * 2 + 1, none⟩ = some (.int .i64 (ps.getD j (0, 0)).2)) := HCL
      clear HCL HR
      by_cases hne : ps.length = M
      · have hneb : ((ps.length : Int) != (M : Int)) = false := by rw [bne_eq_false_iff_eq]; omega
        have HC3 : Hid ((if ps.all okPix then 0 else 1) = c) := by
          unfold Hid; rw [← HC2.out, if_neg (show ¬ (ps.length : Int) ≠ W * H by rw [HM.out]; omega)]
        have hpne : ps ≠ [] := by intro e; rw [e] at hne; simp at hne; omega
        obtain ⟨g, off, rfl, hg, hcell⟩ := HCL'.out hpne
        have HCE : Hid (∀ j, j < ps.length → w.cell? ⟨g, off + j * 2, none⟩ = some (.int .i64 (ps.getD j (0, 0)).1) ∧ w.cell? ⟨g, off + j * 2 + 1, none⟩ = some (.int .i64 (ps.getD j (0, 0)).2)) := hcell
        have HNE : Hid (ps.length = M) := hne
        clear hcell HCL' hpne
        rw [hne] at hcap hps hneb ⊢
        clear hne
        go_enter Tryd.func38, Tryd.ntmps38
        go_wp2_with fail
        refine (side_any W _ true HW).mono ?_
        rintro e w1 ⟨rfl, rfl⟩
        go_wp2_with fail
        refine (side_any H _ true HH).mono ?_
        rintro e w1 ⟨rfl, rfl⟩
        go_wp2_with fail
        go_loopw [29] (fun i wr => ∃ k : Nat, k ≤ M ∧ i = .int .i64 k ∧ Below w.heap.size w wr ∧ Hid (ps.all okPix = (ps.drop k).all okPix)) (fun i _ => M - (intOf i).toNat)
        case atStart => exact ⟨0, by omega, rfl, (Below.refl _ _).alloc (Nat.le_refl _) _, (rfl : _ = _)⟩
        case round =>
          obtain ⟨k, hk, rfl, hb, HK⟩ := hrel
          by_cases hlt : k < M
          · have hc := HCE.out k (by rw [HNE.out]; exact hlt)
            obtain ⟨p, HP⟩ : ∃ p, Hid (ps.getD k (0, 0) = p) := ⟨_, (rfl : _ = _)⟩
            rw [HP.out] at hc
            obtain ⟨pv, pa⟩ := p
            obtain ⟨hc0, hc1⟩ := hc
            have hd0 : wr.cell? ⟨g, off + k * 2, none⟩ = some (.int .i64 pv) := by rw [hb.cell (p := ⟨g, off + k * 2, none⟩) hg, hc0]
            have hd1 : wr.cell? ⟨g, off + k * 2 + 1, none⟩ = some (.int .i64 pa) := by rw [hb.cell (p := ⟨g, off + k * 2 + 1, none⟩) hg, hc1]
            clear hc0 hc1
            have HS : Hid ((ps.drop k).all okPix = (shadeB pv && shadeB pa && (ps.drop (k + 1)).all okPix)) := by
              unfold Hid; rw [drop_pix ps k (by rw [HNE.out]; exact hlt), HP.out, List.all_cons]; rfl
            cases hsv : shadeB pv with
            | false =>
              have HV : Hid (shadeB pv = false) := hsv
              have hc : c = 1 := by rw [← HC3.out, HK.out, HS.out, hsv]; rfl
              subst hc
              clear hsv
              go_wp2_with fail
              refine (shade_any pv _ false HV).mono ?_
              rintro e w1 ⟨rfl, rfl⟩
              go_wp2_with fail
              go_ret
              exact ⟨rfl, hb.alloc hb.size _⟩
            | true =>
              have HV : Hid (shadeB pv = true) := hsv
              cases hsa : shadeB pa with
              | false =>
                have HA : Hid (shadeB pa = false) := hsa
                have hc : c = 1 := by rw [← HC3.out, HK.out, HS.out, hsa, hsv]; rfl
                subst hc
                clear hsv hsa
                go_wp2_with fail
                refine (shade_any pv _ true HV).mono ?_
                rintro e w1 ⟨rfl, rfl⟩
                go_wp2_with fail
                refine (shade_any pa _ false HA).mono ?_
                rintro e w1 ⟨rfl, rfl⟩
                go_wp2_with fail
                go_ret
                exact ⟨rfl, hb.alloc hb.size _⟩
              | true =>
                have HA : Hid (shadeB pa = true) := hsa
                have HN : Hid (ps.all okPix = (ps.drop (k + 1)).all okPix) := by unfold Hid; rw [HK.out, HS.out, hsa, hsv]; rfl
                clear hsv hsa
                go_wp2_with fail
                refine (shade_any pv _ true HV).mono ?_
                rintro e w1 ⟨rfl, rfl⟩
                go_wp2_with fail
                refine (shade_any pa _ true HA).mono ?_
                rintro e w1 ⟨rfl, rfl⟩
                go_wp2_with fail
                go_roundw
                case rel => exact ⟨k + 1, by omega, by go_num, hb.alloc hb.size _, HN⟩
                case measure => simp [intOf]; omega
          · have hc : c = 0 := by rw [← HC3.out, HK.out, List.drop_eq_nil_of_le (by rw [HNE.out]; omega)]; rfl
            subst hc
            go_wp2_with fail
            go_ret
            exact ⟨rfl, hb⟩
      · have hneb : ((ps.length : Int) != (M : Int)) = true := by rw [bne_iff_ne]; omega
        have hc : c = 3 := by rw [← HC2.out, if_pos (show (ps.length : Int) ≠ W * H by rw [HM.out]; omega)]
        subst hc
        go_enter Tryd.func38, Tryd.ntmps38
        go_wp2_with fail
        refine (side_any W _ true HW).mono ?_
        rintro e w1 ⟨rfl, rfl⟩
        go_wp2_with fail
        refine (side_any H _ true HH).mono ?_
        rintro e w1 ⟨rfl, rfl⟩
        go_wp2_with fail
        go_ret
        exact ⟨rfl, (Below.refl _ _).alloc (Nat.le_refl _) _⟩
end Go.Proofs.YtfhfedcamcpceaaDoor
/- Walk of picture.flatten. -/
namespace Go.Proofs.YtfhfedcamcpceaaDoor
open Go.RowKit

set_option maxRecDepth 100000 in
/-- an append to a row that the call owns, as one step of a region that draws its order -/
theorem step_append_own {P : Program} {ops : Array Oper} {o : Oper} {a : Act} {w : World} {K : Act → World → Prop} {Q : Exit → Act → World → Prop} {E : Prop}
    (hg : o.guard = none) (s x : Operand) (t : TypeId) (hop : o.op = Op.call { callee := Callee.builtin Builtin.append, args := #[s, x], argTypes := #[t, t] })
    (base : Nat) (e : TypeId) (i : TypeInfo) (z : Value) (size bytes : Nat) (h1 : P.underlying t = some (.slice e)) (h2 : P.info? e = some i) (h3 : i.zero = some z) (h4 : i.size = size) (h5 : i.bytes = bytes) (h6 : z.cells.size = size) (h7 : 0 < size)
    (v : Value) (n : Nat) (xs : List Value) (hs : a.eval s = v) (hown : w.ownsRow base e size v n xs)
    (ad : Addr) (m c : Nat) (news : List Value) (hx : a.eval x = .slice (some ad) m c) (hn : news.length = m * size) (hc : ∀ j u, news[j]? = some u → w.cell? (ad.add j) = some u) (h1c : ∀ u ∈ news, u.oneCell' = true)
    (b1 : n + m ≤ maxLen) (b2 : (n + m) * bytes ≤ 140737488355328) (b3 : base ≤ w.heap.size)
    (hK : ∀ v' w', w'.ownsRow base e size v' (n + m) (xs ++ news) → w.grownBy w' v.ownBlock → K (a.put o.dst v') w') :
    if Region.wanted o (yielded ops a.tmps) = true then Oper.wp P o a w K Q else E := by
  have hw : Region.wanted o (yielded ops a.tmps) = true := by simp [Region.wanted, hg]
  rw [if_pos hw]
  obtain ⟨v', w', hrun, r1, r2, _⟩ := run_append_own (P := P) w base t o.type e i z size bytes h1 h2 h3 h4 h5 h6 h7 v n xs hown ad m c news hn hc h1c b1 b2 b3
  unfold Oper.wp
  simp [execOp, hop, resolve, invoke, builtin, hs, hx, hrun, Result.andThen]
  exact hK v' w' r1 r2

def flatP : List (Int × Int) → List UInt8
  | [] => []
  | (v, a) :: r => UInt8.ofNat v.toNat :: UInt8.ofNat a.toNat :: flatP r

set_option maxRecDepth 100000 in
theorem flatP_len (ps : List (Int × Int)) : (flatP ps).length = 2 * ps.length := by
  induction ps with
  | nil => rfl
  | cons p r ih => obtain ⟨v, a⟩ := p; simp [flatP, ih]; omega

set_option maxRecDepth 100000 in
theorem below_app2 {w wr w2 : World} {v : Value} {n : Nat} {xs : List Value} {e : TypeId} {size : Nat} {ob : Obj} (hb : Below w.heap.size w wr) (hown : wr.ownsRow w.heap.size e size v n xs) (hg : ((wr.alloc ob).drew).grownBy w2 v.ownBlock) : Below w.heap.size w w2 := by
  refine ((hb.alloc hb.size ob).drew).grown hg (by have := hb.size; simp; omega) ?_
  intro k hk
  exact (hown.lt k hk).1

set_option maxRecDepth 100000 in
theorem shade_nat {n : Int} (h : shadeB n = true) : 0 ≤ n ∧ n ≤ 255 := by unfold shadeB at h; simpa using h
set_option maxRecDepth 100000 in
theorem shade_byte {n : Int} (h0 : 0 ≤ n) (h1 : n ≤ 255) : bv (UInt8.ofNat n.toNat) = .int .u8 n := by
  unfold bv
  have : (UInt8.ofNat n.toNat).toNat = n.toNat := by rw [UInt8.toNat_ofNat']; omega
  rw [this]
  congr 1
  omega

set_option maxRecDepth 100000 in
theorem two_new2 (w : World) (n d : Int) : ∀ j u, [Value.int .u8 n, .int .u8 d][j]? = some u → ((w.alloc (.cells #[.int .u8 n, .int .u8 d] 5)).drew).cell? ((⟨w.heap.size, 0, none⟩ : Addr).add j) = some u := two_new w n d

set_option maxHeartbeats 2000000 in
set_option maxRecDepth 100000 in
theorem flatten_any (v : Value) (ps : List (Int × Int)) (w : World) (hlen : ps.length ≤ 1000) (hok : Hid (∀ p ∈ ps, okPix p = true)) (HR : Hid (RdP w v ps)) (hne : ps ≠ []) :
    Calls Tryd.prog 51 #[v] w fun e w' => ∃ v', e = .returned v' ∧ w'.ownsRow w.heap.size 5 1 v' (flatP ps).length ((flatP ps).map bv) ∧ Below w.heap.size w w' := by
  obtain ⟨i0, hi, hz0, hz1, hz2⟩ := info_parts Tryd.infoByte
  obtain ⟨a, cap, hv, hlc, hcap, hh⟩ := HR.out
  obtain ⟨g, off, rfl, hg, hcell⟩ := hh hne
  obtain ⟨n, HN⟩ : ∃ n, Hid (ps.length = n) := ⟨_, (rfl : _ = _)⟩
  rw [HN.out] at hv hlc hlen
  have HC : Hid (∀ j, j < n → w.cell? ⟨g, off + j * 2, none⟩ = some (.int .i64 (ps.getD j (0, 0)).1) ∧ w.cell? ⟨g, off + j * 2 + 1, none⟩ = some (.int .i64 (ps.getD j (0, 0)).2)) := by unfold Hid; rw [← HN.out]; exact hcell
  clear hcell hh
  subst hv
  go_enter Tryd.func51, Tryd.ntmps51
  go_wp2_with (at_make; refine wpList_make_own _ rfl _ _ 59 rfl w.heap.size 5 i0 (.int .u8 0) 1 Tryd.underlying59 hi hz0 hz1 _ _ _ (2 * n) rfl rfl (by simp) ?b1 ?b2 ?b3 ?_)
  case b1 => rw [hz2]; omega
  case b2 => unfold maxLen; omega
  case b3 => exact Nat.le_refl _
  intro w1 hown1 hgrow1
  have hb1 : Below w.heap.size w w1 := (Below.refl _ _).grown hgrow1 (Nat.le_refl _) (by intro k hk; cases hk)
  clear hgrow1
  go_wp2_with fail
  go_loopw [3, 11] (fun x i wr => ∃ (k : Nat) (o : List UInt8), k ≤ n ∧ i = .int .i64 k ∧ Hid (wr.ownsRow w.heap.size 5 1 x o.length (o.map bv)) ∧ Below w.heap.size w wr ∧ o.length ≤ 2 * k ∧ Hid (flatP ps = o ++ flatP (ps.drop k))) (fun _ i _ => n - (intOf i).toNat)
  case atStart => exact ⟨0, [], by omega, rfl, hown1, hb1, by simp, rfl⟩
  case round =>
    obtain ⟨k, o, hk, rfl, HOWN, hb, ho, HK⟩ := hrel
    by_cases hlt : k < n
    · obtain ⟨p, HP⟩ : ∃ p, Hid (ps.getD k (0, 0) = p) := ⟨_, (rfl : _ = _)⟩
      obtain ⟨pv, pa⟩ := p
      have hc := HC.out k hlt
      rw [HP.out] at hc
      have hc0 : wr.cell? ⟨g, off + k * 2, none⟩ = some (.int .i64 pv) := by rw [hb.cell (p := ⟨g, off + k * 2, none⟩) hg, hc.1]
      have hc1 : wr.cell? ⟨g, off + k * 2 + 1, none⟩ = some (.int .i64 pa) := by rw [hb.cell (p := ⟨g, off + k * 2 + 1, none⟩) hg, hc.2]
      have hmem : (pv, pa) ∈ ps := by
        rw [← HP.out, List.getD_eq_getElem?_getD, List.getElem?_eq_getElem (show k < ps.length by rw [HN.out]; exact hlt)]
        exact List.getElem_mem _
      have hpx := hok.out _ hmem
      unfold okPix at hpx
      simp only [Bool.and_eq_true] at hpx
      obtain ⟨v0, v1⟩ := shade_nat hpx.1
      obtain ⟨a0, a1⟩ := shade_nat hpx.2
      have hw1 : IntKind.u8.wrap pv = pv := by rw [IntKind.wrap_u8]; omega
      have hw2 : IntKind.u8.wrap pa = pa := by rw [IntKind.wrap_u8]; omega
      have HS : Hid (flatP ps = (o ++ [UInt8.ofNat pv.toNat, UInt8.ofNat pa.toNat]) ++ flatP (ps.drop (k + 1))) := by
        unfold Hid; rw [HK.out, drop_pix ps k (by rw [HN.out]; exact hlt), HP.out]; simp [flatP]
      have HVB : Hid (bv (UInt8.ofNat pv.toNat) = .int .u8 pv) := shade_byte v0 v1
      have HAB : Hid (bv (UInt8.ofNat pa.toNat) = .int .u8 pa) := shade_byte a0 a1
      clear hc hmem hpx
      go_upto_region 5 with fail
      go_region_law (refine step_append_own rfl (.tmp 14) (.tmp 27) 59 rfl w.heap.size 5 i0 (.int .u8 0) 1 1 Tryd.underlying59 hi hz0 hz1 hz2 rfl (by decide) _ _ _ rfl (HOWN.out.alloc _).drew ⟨wr.heap.size, 0, none⟩ 2 2 [.int .u8 pv, .int .u8 pa] rfl rfl (two_new2 _ _ _) (two_one _ _) (by unfold maxLen; omega) (by omega) (by have := hb.size; simp; omega) ?_; intro v' w2 hown' hgrow)
      all_goals (have hb2 : Below w.heap.size w w2 := below_app2 hb HOWN.out hgrow)
      all_goals (have HO2 : Hid (w2.ownsRow w.heap.size 5 1 v' (o ++ [UInt8.ofNat pv.toNat, UInt8.ofNat pa.toNat]).length ((o ++ [UInt8.ofNat pv.toNat, UInt8.ofNat pa.toNat]).map bv)) := by unfold Hid; rw [List.map_append, List.map_cons, List.map_cons, HVB.out, HAB.out]; simpa using hown')
      all_goals clear hown' hgrow
      all_goals go_wp2_with fail
      all_goals (go_roundw; (case rel => exact ⟨k + 1, o ++ [UInt8.ofNat pv.toNat, UInt8.ofNat pa.toNat], by omega, by go_num, HO2, hb2, by simp; omega, HS⟩); (case measure => simp [intOf]; omega))
    · have HF : Hid (flatP ps = o) := by unfold Hid; rw [HK.out, List.drop_eq_nil_of_le (by rw [HN.out]; omega)]; simp [flatP]
      go_wp2_with fail
      go_ret
      exact ⟨_, rfl, by rw [HF.out]; exact HOWN.out, hb⟩
end Go.Proofs.YtfhfedcamcpceaaDoor
/- Walk of picture.appendPixels. -/
namespace Go.Proofs.YtfhfedcamcpceaaDoor
open Go.RowKit

theorem Tryd.infoPix : (Tryd.prog.info? 88).map (fun i => (i.zero, i.size, i.bytes)) = some (some (.agg #[.int .i64 0, .int .i64 0]), 2, 16) := by kernel_rfl

def pixOf : List UInt8 → List (Int × Int)
  | a :: b :: r => ((a.toNat : Int), (b.toNat : Int)) :: pixOf r
  | _ => []
def pixCells : List (Int × Int) → List Value
  | [] => []
  | (v, a) :: r => .int .i64 v :: .int .i64 a :: pixCells r
set_option maxRecDepth 100000 in
theorem pixCells_append (a b : List (Int × Int)) : pixCells (a ++ b) = pixCells a ++ pixCells b := by
  induction a with
  | nil => rfl
  | cons p a ih => obtain ⟨n, d⟩ := p; simp [pixCells, ih]

set_option maxRecDepth 100000 in
/-- rows of two kinds lie apart -/
theorem own_diff {W : World} {B B' : Nat} {e e' : TypeId} {size size' : Nat} {x v : Value} {n m : Nat} {xs ys : List Value} (hx : W.ownsRow B e size x n xs) (hv : W.ownsRow B' e' size' v m ys) (hne : e ≠ e') : v.ownBlock = none ∨ v.ownBlock ≠ x.ownBlock := by
  rcases hv.2 with ⟨rfl, _⟩ | ⟨g, cap, cur, rfl, _, hg, _⟩
  · exact .inl rfl
  · right
    intro h
    rcases hx.2 with ⟨rfl, _⟩ | ⟨g2, cap2, cur2, rfl, _, hg2, _⟩
    · simp [Value.ownBlock] at h
    · simp [Value.ownBlock] at h
      subst h
      rw [hg] at hg2
      simp at hg2
      exact hne hg2.2.symm

set_option maxRecDepth 100000 in
theorem below_app3 {w wr w2 : World} {B : Nat} {v : Value} {n : Nat} {xs : List Value} {e : TypeId} {size : Nat} {ob : Obj} (hb : Below B w wr) (hB : B ≤ wr.heap.size) (hown : wr.ownsRow B e size v n xs) (hg : ((wr.alloc ob).drew).grownBy w2 v.ownBlock) : Below B w w2 := by
  refine ((hb.alloc hB ob).drew).grown hg (by simp; omega) ?_
  intro k hk
  exact (hown.lt k hk).1

set_option maxRecDepth 100000 in
theorem drop_two2 (l : List UInt8) (k : Nat) (h : 2 * k + 1 < l.length) : l.drop (2 * k) = l.getD (2 * k) 0 :: l.getD (2 * k + 1) 0 :: l.drop (2 * (k + 1)) := drop_two l k h

set_option maxRecDepth 100000 in
theorem pix_new (w : World) (n d : Int) : ∀ j u, [Value.int .i64 n, .int .i64 d][j]? = some u → ((w.alloc (.cells #[.int .i64 n, .int .i64 d] 88)).drew).cell? ((⟨w.heap.size, 0, none⟩ : Addr).add j) = some u := by
  intro j u hj
  match j, hj with
  | 0, hj => simp at hj; subst hj; simp [Addr.add]
  | 1, hj => simp at hj; subst hj; simp [Addr.add]
  | j + 2, hj => simp at hj
set_option maxRecDepth 100000 in
theorem pix_one (n d : Int) : ∀ u ∈ [Value.int .i64 n, .int .i64 d], u.oneCell' = true := by
  intro u hu; simp at hu; rcases hu with rfl | rfl <;> rfl

set_option maxHeartbeats 2000000 in
set_option maxRecDepth 100000 in
theorem appendPixels_any (B m : Nat) (vl vrow : Value) (ps : List (Int × Int)) (row : List UInt8) (w : World) (hB : B ≤ w.heap.size) (HP : Hid (w.ownsRow B 88 2 vl ps.length (pixCells ps))) (HR : Hid (w.ownsRow B 5 1 vrow row.length (row.map bv)))
    (HM : Hid (row.length = 2 * m)) (hm : m ≤ 100) (hm1 : 1 ≤ m) (hps : ps.length ≤ 10000) :
    Calls Tryd.prog 60 #[vl, vrow] w fun e w' => ∃ v', e = .returned v' ∧ w'.ownsRow B 88 2 v' (ps ++ pixOf row).length (pixCells (ps ++ pixOf row)) ∧ w'.ownsRow B 5 1 vrow row.length (row.map bv) ∧ Below B w w' := by
  obtain ⟨i0, hi, hz0, hz1, hz2⟩ := info_parts Tryd.infoPix
  obtain ⟨g, cap, hv, hgB, hlc, hcm⟩ := own_shape HR.out (by rw [HM.out]; omega)
  rw [HM.out] at hv hlc
  unfold maxLen at hcm
  subst hv
  obtain ⟨av, cv, hvl⟩ := own_any HP.out
  go_enter Tryd.func60, Tryd.ntmps60
  go_wp2_with fail
  go_loopw [0, 9] (fun x i wr => ∃ (k : Nat) (qs : List (Int × Int)), k ≤ m ∧ i = .int .i64 k ∧ Hid (wr.ownsRow B 88 2 x qs.length (pixCells qs)) ∧ Hid (wr.ownsRow B 5 1 (.slice (some ⟨g, 0, none⟩) (2 * m) cap) row.length (row.map bv)) ∧ Below B w wr ∧ qs.length ≤ ps.length + k ∧ Hid (ps ++ pixOf row = qs ++ pixOf (row.drop (2 * k)))) (fun _ i _ => m - (intOf i).toNat)
  case atStart => exact ⟨0, ps, by omega, rfl, HP, HR, Below.refl _ _, by omega, rfl⟩
  case round =>
    obtain ⟨k, qs, hk, rfl, HO, HRR, hb, hqs, HK⟩ := hrel
    by_cases hlt : k < m
    · obtain ⟨x, HX⟩ : ∃ x, Hid (row.getD (2 * k) 0 = x) := ⟨_, (rfl : _ = _)⟩
      obtain ⟨y, HY⟩ : ∃ x, Hid (row.getD (2 * k + 1) 0 = x) := ⟨_, (rfl : _ = _)⟩
      obtain ⟨xx, HXX⟩ : ∃ m, Hid (x.toNat = m) := ⟨_, (rfl : _ = _)⟩
      obtain ⟨yy, HYY⟩ : ∃ m, Hid (y.toNat = m) := ⟨_, (rfl : _ = _)⟩
      have hxb := byte_le x xx HXX
      have hyb := byte_le y yy HYY
      have hrd := rdB_own HRR.out
      obtain ⟨_, _, hv2, _, _, hh⟩ := hrd
      obtain ⟨g2, hg2, hglt, hcell⟩ := hh (by intro e; have h := HM.out; rw [e] at h; simp at h; omega)
      simp only [Value.slice.injEq] at hv2
      have hgg : g2 = g := by
        have h1 := hv2.1
        rw [hg2] at h1
        simp at h1
        exact h1.symm
      subst hgg
      have hc0 : wr.cell? ⟨g2, 2 * k, none⟩ = some (.int .u8 (xx : Int)) := by rw [hcell (2 * k) (by rw [HM.out]; omega), HX.out, ← HXX.out]; rfl
      have hc1 : wr.cell? ⟨g2, 2 * k + 1, none⟩ = some (.int .u8 (yy : Int)) := by rw [hcell (2 * k + 1) (by rw [HM.out]; omega), HY.out, ← HYY.out]; rfl
      clear hcell hh hv2 hg2
      have hq1 : IntKind.i64.wrap (2 * (k : Int)) = 2 * (k : Int) := by rw [IntKind.wrap_i64]; omega
      have hq2 : IntKind.i64.wrap (2 * (k : Int) + 1) = 2 * (k : Int) + 1 := by rw [IntKind.wrap_i64]; omega
      have hq3 : IntKind.i64.wrap (xx : Int) = (xx : Int) := by rw [IntKind.wrap_i64]; omega
      have hq4 : IntKind.i64.wrap (yy : Int) = (yy : Int) := by rw [IntKind.wrap_i64]; omega
      have hq5 : (2 * (k : Int)).toNat = 2 * k := by omega
      have hq6 : (2 * (k : Int) + 1).toNat = 2 * k + 1 := by omega
      have hq7 : (0 : Int) ≤ 2 * (k : Int) := by omega
      have hq8 : 2 * (k : Int) < ((2 * m : Nat) : Int) := by omega
      have hq9 : 2 * (k : Int) + 1 < ((2 * m : Nat) : Int) := by omega
      have hq10 : 2 * (k : Int) < 2 * (m : Int) := by omega
      have hq11 : 2 * (k : Int) + 1 < 2 * (m : Int) := by omega
      have hq12 : (0 : Int) ≤ 2 * (k : Int) + 1 := by omega
      have HS : Hid (ps ++ pixOf row = (qs ++ [((xx : Int), (yy : Int))]) ++ pixOf (row.drop (2 * (k + 1)))) := by
        unfold Hid; rw [HK.out, drop_two2 row k (by rw [HM.out]; omega), HX.out, HY.out, pixOf, HXX.out, HYY.out]; simp
      go_upto_region 4 with fail
      go_region_law (refine step_append_own rfl (.tmp 12) (.tmp 27) 22 rfl B 88 i0 (.agg #[.int .i64 0, .int .i64 0]) 2 16 Tryd.underlying22 hi hz0 hz1 hz2 rfl (by decide) _ _ _ rfl (HO.out.alloc _).drew ⟨wr.heap.size, 0, none⟩ 1 1 [.int .i64 (xx : Int), .int .i64 (yy : Int)] rfl rfl (pix_new _ _ _) (pix_one _ _) (by unfold maxLen; omega) (by omega) (by have := hb.size; simp; omega) ?_; intro v' w2 hown' hgrow)
      all_goals (have hb2 : Below B w w2 := below_app3 hb (Nat.le_trans hB hb.size) HO.out hgrow)
      all_goals (have HO2 : Hid (w2.ownsRow B 88 2 v' (qs ++ [((xx : Int), (yy : Int))]).length (pixCells (qs ++ [((xx : Int), (yy : Int))]))) := by unfold Hid; rw [pixCells_append]; simpa [pixCells] using hown')
      all_goals (have HR2 : Hid (w2.ownsRow B 5 1 (.slice (some ⟨g2, 0, none⟩) (2 * m) cap) row.length (row.map bv)) := ((HRR.out.alloc _).drew).kept hgrow (own_diff HO.out HRR.out (by decide)))
      all_goals clear hown' hgrow
      all_goals go_wp2_with fail
      all_goals (go_roundw; (case rel => exact ⟨k + 1, qs ++ [((xx : Int), (yy : Int))], by omega, by go_num, HO2, HR2, hb2, by simp; omega, HS⟩); (case measure => simp [intOf]; omega))
    · have HF : Hid (ps ++ pixOf row = qs) := by unfold Hid; rw [HK.out, List.drop_eq_nil_of_le (by rw [HM.out]; omega)]; simp [pixOf]
      go_wp2_with fail
      go_ret
      exact ⟨_, rfl, by rw [HF.out]; exact HO.out, HRR.out, hb⟩
end Go.Proofs.YtfhfedcamcpceaaDoor
/- Walk of picture.Parse. -/
namespace Go.Proofs.YtfhfedcamcpceaaDoor
open Go.RowKit

/-- the rows' pixels, f rows from row k on, and the number of the error -/
def parseRows (rs : List UInt8) (W : Nat) : Nat → Nat → List UInt8 → List (Int × Int) × Nat
  | 0, _, _ => ([], 0)
  | f + 1, k, above =>
    if 4 ≤ (rs.getD (k * (1 + 2 * W)) 0).toNat then ([], 4)
    else if (parseRows rs W f (k + 1) (Fb.restL (rs.getD (k * (1 + 2 * W)) 0).toNat ((rs.drop (k * (1 + 2 * W) + 1)).take (2 * W)) above)).2 ≠ 0
      then ([], (parseRows rs W f (k + 1) (Fb.restL (rs.getD (k * (1 + 2 * W)) 0).toNat ((rs.drop (k * (1 + 2 * W) + 1)).take (2 * W)) above)).2)
    else (pixOf (Fb.restL (rs.getD (k * (1 + 2 * W)) 0).toNat ((rs.drop (k * (1 + 2 * W) + 1)).take (2 * W)) above) ++ (parseRows rs W f (k + 1) (Fb.restL (rs.getD (k * (1 + 2 * W)) 0).toNat ((rs.drop (k * (1 + 2 * W) + 1)).take (2 * W)) above)).1, 0)

/-- Parse's answer: sides, pixels, and the number of the error -/
def parseL (l : List UInt8) : Nat × Nat × List (Int × Int) × Nat :=
  if l.length < 2 then (0, 0, [], 4)
  else if sideB ((l.getD 0 0).toNat : Int) = false ∨ sideB ((l.getD 1 0).toNat : Int) = false then (0, 0, [], 1)
  else if (Fb.unpack (l.drop 2) (((l.getD 1 0).toNat * (1 + 2 * (l.getD 0 0).toNat) : Nat) : Int)).2 ≠ 0 then (0, 0, [], (Fb.unpack (l.drop 2) (((l.getD 1 0).toNat * (1 + 2 * (l.getD 0 0).toNat) : Nat) : Int)).2)
  else if (Fb.unpack (l.drop 2) (((l.getD 1 0).toNat * (1 + 2 * (l.getD 0 0).toNat) : Nat) : Int)).1.length < (l.getD 1 0).toNat * (1 + 2 * (l.getD 0 0).toNat) then (0, 0, [], 4)
  else if (parseRows (Fb.unpack (l.drop 2) (((l.getD 1 0).toNat * (1 + 2 * (l.getD 0 0).toNat) : Nat) : Int)).1 (l.getD 0 0).toNat (l.getD 1 0).toNat 0 []).2 ≠ 0 then (0, 0, [], (parseRows (Fb.unpack (l.drop 2) (((l.getD 1 0).toNat * (1 + 2 * (l.getD 0 0).toNat) : Nat) : Int)).1 (l.getD 0 0).toNat (l.getD 1 0).toNat 0 []).2)
  else ((l.getD 0 0).toNat, (l.getD 1 0).toNat, (parseRows (Fb.unpack (l.drop 2) (((l.getD 1 0).toNat * (1 + 2 * (l.getD 0 0).toNat) : Nat) : Int)).1 (l.getD 0 0).toNat (l.getD 1 0).toNat 0 []).1, 0)

def zeroPic : Value := .agg #[.int .i64 0, .int .i64 0, .slice none 0 0]

set_option maxRecDepth 100000 in
theorem Three.onB {W W' : World} {b B : Nat} {x y z : Value} (h : Three W b x y z) (hb : Below B W W') (hlt : b < B) : Three W' b x y z :=
  ⟨(hb.cell (p := ⟨b, 0, none⟩) hlt).trans h.c0, (hb.cell (p := ⟨b, 1, none⟩) hlt).trans h.c1, (hb.cell (p := ⟨b, 2, none⟩) hlt).trans h.c2,
    (hb.frozen (p := ⟨b, 0, none⟩) hlt).trans h.f0, (hb.frozen (p := ⟨b, 1, none⟩) hlt).trans h.f1, (hb.frozen (p := ⟨b, 2, none⟩) hlt).trans h.f2, Nat.lt_of_lt_of_le h.lt hb.size⟩
set_option maxRecDepth 100000 in
theorem Three.drewN {W : World} {b : Nat} {x y z : Value} (h : Three W b x y z) (q : Nat) : Three (W.drewN q) b x y z := ⟨h.c0, h.c1, h.c2, h.f0, h.f1, h.f2, h.lt⟩

set_option maxRecDepth 100000 in
theorem rdP_own {w : World} {B : Nat} {v : Value} {ps : List (Int × Int)} (h : w.ownsRow B 88 2 v ps.length (pixCells ps)) : RdP w v ps := by
  have hc : ∀ (ps : List (Int × Int)) (j : Nat), j < ps.length → (pixCells ps)[j * 2]? = some (.int .i64 (ps.getD j (0, 0)).1) ∧ (pixCells ps)[j * 2 + 1]? = some (.int .i64 (ps.getD j (0, 0)).2) := by
    intro ps
    induction ps with
    | nil => intro j hj; simp at hj
    | cons p r ih =>
      intro j hj
      obtain ⟨a, b⟩ := p
      cases j with
      | zero => simp [pixCells]
      | succ j =>
        have := ih j (by simpa using hj)
        rw [show (j + 1) * 2 = j * 2 + 2 by omega]
        simpa [pixCells] using this
  rcases h.2 with ⟨rfl, h0⟩ | ⟨g, cap, cur, rfl, hb, hg, hn, hm, hs, ht⟩
  · exact ⟨none, 0, by rw [h0], by omega, by omega, fun hne => absurd (List.eq_nil_of_length_eq_zero h0) hne⟩
  · refine ⟨_, cap, rfl, hn, by unfold maxLen at hm; omega, fun _ => ⟨g, 0, rfl, (Array.getElem?_eq_some_iff.1 hg).1, fun j hj => ?_⟩⟩
    rw [Nat.zero_add, h.cellAt (j * 2) (by omega), h.cellAt (j * 2 + 1) (by omega)]
    exact hc ps j hj

set_option maxRecDepth 100000 in
theorem rdP_nil (w : World) : RdP w (.slice none 0 0) [] := ⟨none, 0, rfl, by simp, by omega, fun h => absurd rfl h⟩

end Go.Proofs.YtfhfedcamcpceaaDoor
/- Lemmas for picture.Parse. -/
namespace Go.Proofs.YtfhfedcamcpceaaDoor
open Go.RowKit

set_option maxRecDepth 100000 in
theorem unpack_at2 (s : ByteArray) (most : Int) (w : World) (hs : s.size ≤ 1000000) (hm0 : -9223372036854775808 ≤ most) (hm1 : most ≤ 9223372036854775807) (x : ByteArray) (v : Value) (l : List UInt8) (c : Nat)
    (HZ : Hid (Fb.unpack s.data.toList most = (l, c))) (HX : Hid (l = x.data.toList)) (HV : Hid (errV c = v)) :
    Calls Tryd.prog 58 #[.string s, .int .i64 most] w fun e w' => e = .returned (.tuple #[.string x, v]) ∧ Below w.heap.size w w' := by
  have h := unpack_any s most w hs hm0 hm1
  rw [HZ.out, HX.out, str_self] at h
  rw [← HV.out]
  exact h

set_option maxRecDepth 100000 in
theorem ext_drop2 (s : ByteArray) : (s.extract 2 s.size).data.toList = s.data.toList.drop 2 := by
  rw [ByteArray.data_extract, Array.toList_extract, List.extract_eq_take_drop, List.take_of_length_le (by simp)]

set_option maxRecDepth 100000 in
theorem own_mono {W : World} {B B' : Nat} {e : TypeId} {size : Nat} {v : Value} {n : Nat} {xs : List Value} (h : W.ownsRow B e size v n xs) (hB : B' ≤ B) : W.ownsRow B' e size v n xs := by
  refine ⟨h.1, ?_⟩
  rcases h.2 with h' | ⟨g, cap, cur, hv, hb, r⟩
  · exact .inl h'
  · exact .inr ⟨g, cap, cur, hv, Nat.le_trans hB hb, r⟩
set_option maxRecDepth 100000 in
/-- the third cell is another one -/
theorem Three.set2 {W : World} {b : Nat} {x y z u : Value} (h : Three W b x y z) : Three (W.setCell ⟨b, 2, none⟩ u) b x y u :=
  ⟨(World.cell?_setCell_other _ ⟨b, 2, none⟩ ⟨b, 0, none⟩ _ (by simp)).trans h.c0, (World.cell?_setCell_other _ ⟨b, 2, none⟩ ⟨b, 1, none⟩ _ (by simp)).trans h.c1, World.cell?_setCell_same _ _ _ h.c2, (World.frozen?_setCell _ _ _ _).trans h.f0, (World.frozen?_setCell _ _ _ _).trans h.f1, (World.frozen?_setCell _ _ _ _).trans h.f2, by simpa using h.lt⟩
set_option maxRecDepth 100000 in
/-- a store into another block -/
theorem Three.other {W : World} {b b' j : Nat} {x y z u : Value} (h : Three W b x y z) (hne : b ≠ b') : Three (W.setCell ⟨b', j, none⟩ u) b x y z :=
  ⟨(World.cell?_of_block (Below.heap_setCell W ⟨b', j, none⟩ u b (by simpa using hne))).trans h.c0, (World.cell?_of_block (Below.heap_setCell W ⟨b', j, none⟩ u b (by simpa using hne))).trans h.c1, (World.cell?_of_block (Below.heap_setCell W ⟨b', j, none⟩ u b (by simpa using hne))).trans h.c2,
    (World.frozen?_of_block (Below.heap_setCell W ⟨b', j, none⟩ u b (by simpa using hne))).trans h.f0, (World.frozen?_of_block (Below.heap_setCell W ⟨b', j, none⟩ u b (by simpa using hne))).trans h.f1, (World.frozen?_of_block (Below.heap_setCell W ⟨b', j, none⟩ u b (by simpa using hne))).trans h.f2, by simpa using h.lt⟩

set_option maxRecDepth 100000 in
/-- one row more -/
theorem rows_err (rs : List UInt8) (W f k : Nat) (above : List UInt8) (h : 4 ≤ (rs.getD (k * (1 + 2 * W)) 0).toNat) : parseRows rs W (f + 1) k above = ([], 4) := by rw [parseRows, if_pos h]

def combP (qs : List (Int × Int)) (r : List (Int × Int) × Nat) : List (Int × Int) × Nat := if r.2 ≠ 0 then ([], r.2) else (qs ++ r.1, 0)
set_option maxRecDepth 100000 in
theorem combP_combP (a b : List (Int × Int)) (r : List (Int × Int) × Nat) : combP a (combP b r) = combP (a ++ b) r := by
  unfold combP
  by_cases h : r.2 = 0
  · simp [h]
  · simp [h]
set_option maxRecDepth 100000 in
theorem rows_step (rs : List UInt8) (W f k : Nat) (above : List UInt8) (h : ¬ 4 ≤ (rs.getD (k * (1 + 2 * W)) 0).toNat) :
    parseRows rs W (f + 1) k above = combP (pixOf (Fb.restL (rs.getD (k * (1 + 2 * W)) 0).toNat ((rs.drop (k * (1 + 2 * W) + 1)).take (2 * W)) above)) (parseRows rs W f (k + 1) (Fb.restL (rs.getD (k * (1 + 2 * W)) 0).toNat ((rs.drop (k * (1 + 2 * W) + 1)).take (2 * W)) above)) := by
  rw [parseRows, if_neg h]; rfl
set_option maxRecDepth 100000 in
theorem rows_nil (rs : List UInt8) (W f k : Nat) (above : List UInt8) : combP [] (parseRows rs W f k above) = parseRows rs W f k above := by
  unfold combP
  by_cases h : (parseRows rs W f k above).2 = 0
  · rw [if_neg (by omega), List.nil_append, ← h]
  · rw [if_pos h]
    cases f with
    | zero => rfl
    | succ f =>
      rw [parseRows] at h ⊢
      by_cases h1 : 4 ≤ (rs.getD (k * (1 + 2 * W)) 0).toNat
      · rw [if_pos h1]
      · rw [if_neg h1] at h ⊢
        by_cases h2 : (parseRows rs W f (k + 1) (Fb.restL (rs.getD (k * (1 + 2 * W)) 0).toNat ((rs.drop (k * (1 + 2 * W) + 1)).take (2 * W)) above)).2 = 0
        · rw [if_neg (by omega)] at h; simp at h
        · rw [if_pos h2]

set_option maxRecDepth 100000 in
/-- what Parse's answer is, once the sides may be -/
theorem parse_body (l : List UInt8) (W H : Nat) (hl : ¬ l.length < 2) (hW : (l.getD 0 0).toNat = W) (hH : (l.getD 1 0).toNat = H) (hs : ¬ (sideB (W : Int) = false ∨ sideB (H : Int) = false)) (us : List UInt8) (uc : Nat) (hu : Fb.unpack (l.drop 2) ((H * (1 + 2 * W) : Nat) : Int) = (us, uc)) :
    parseL l = if uc ≠ 0 then (0, 0, [], uc) else if us.length < H * (1 + 2 * W) then (0, 0, [], 4) else if (parseRows us W H 0 []).2 ≠ 0 then (0, 0, [], (parseRows us W H 0 []).2) else (W, H, (parseRows us W H 0 []).1, 0) := by
  unfold parseL
  rw [if_neg hl, hW, hH, if_neg hs, hu]

set_option maxRecDepth 100000 in
theorem parse_side (l : List UInt8) (W H : Nat) (hl : ¬ l.length < 2) (hW : (l.getD 0 0).toNat = W) (hH : (l.getD 1 0).toNat = H) (hs : sideB (W : Int) = false ∨ sideB (H : Int) = false) : parseL l = (0, 0, [], 1) := by
  unfold parseL
  rw [if_neg hl, hW, hH, if_pos hs]
set_option maxRecDepth 100000 in
theorem parse_short (l : List UInt8) (hl : l.length < 2) : parseL l = (0, 0, [], 4) := by unfold parseL; rw [if_pos hl]

set_option maxRecDepth 100000 in
theorem pixOf_len : ∀ (n : Nat) (l : List UInt8), l.length = 2 * n → (pixOf l).length = n
  | 0, l, h => by
    have : l = [] := List.eq_nil_of_length_eq_zero (by omega)
    subst this; rfl
  | n + 1, [], h => by simp at h
  | n + 1, [_], h => by simp at h; omega
  | n + 1, a :: b :: r, h => by
    rw [pixOf, List.length_cons, pixOf_len n r (by simp at h; omega)]
set_option maxRecDepth 100000 in
theorem own_drewN {w : World} {base : Nat} {e : TypeId} {size : Nat} {v : Value} {n : Nat} {xs : List Value} (h : w.ownsRow base e size v n xs) (q : Nat) : (w.drewN q).ownsRow base e size v n xs := h
end Go.Proofs.YtfhfedcamcpceaaDoor
/- What the texts of stage 2 have in common: errors, worlds, cells. -/
namespace Go.Proofs.YtfhfedcamcpceaaDoor
open Go.RowKit

end Go.Proofs.YtfhfedcamcpceaaDoor
/- Blocks of some cells: what is known of them, and how it is kept. -/
namespace Go.Proofs.YtfhfedcamcpceaaDoor
open Go.RowKit

theorem two_startB (w : World) (x y : Value) (T : TypeId) (b : Nat) (hb : b = w.heap.size) : Two (w.alloc (.cells #[x, y] T)) b x y := by
  subst hb; exact ⟨by simp, by simp, by simp, by simp, by simp⟩
theorem Two.onB {W W' : World} {b B : Nat} {x y : Value} (h : Two W b x y) (hb : Below B W W') (hlt : b < B) : Two W' b x y :=
  ⟨(hb.cell (p := ⟨b, 0, none⟩) hlt).trans h.c0, (hb.cell (p := ⟨b, 1, none⟩) hlt).trans h.c1, (hb.frozen (p := ⟨b, 0, none⟩) hlt).trans h.f0, (hb.frozen (p := ⟨b, 1, none⟩) hlt).trans h.f1, Nat.lt_of_lt_of_le h.lt hb.size⟩
theorem Two.drewN {W : World} {b : Nat} {x y : Value} (h : Two W b x y) (q : Nat) : Two (W.drewN q) b x y := ⟨h.c0, h.c1, h.f0, h.f1, h.lt⟩
theorem Two.alloc {W : World} {b : Nat} {x y : Value} (h : Two W b x y) (o : Obj) : Two (W.alloc o) b x y := h.on ((Below.refl _ _).alloc (Nat.le_refl _) o)
theorem Two.other {W : World} {b b' j : Nat} {x y u : Value} (h : Two W b x y) (hne : b ≠ b') : Two (W.setCell ⟨b', j, none⟩ u) b x y :=
  ⟨(World.cell?_of_block (Below.heap_setCell W ⟨b', j, none⟩ u b (by simpa using hne))).trans h.c0, (World.cell?_of_block (Below.heap_setCell W ⟨b', j, none⟩ u b (by simpa using hne))).trans h.c1, (World.frozen?_of_block (Below.heap_setCell W ⟨b', j, none⟩ u b (by simpa using hne))).trans h.f0, (World.frozen?_of_block (Below.heap_setCell W ⟨b', j, none⟩ u b (by simpa using hne))).trans h.f1, by simpa using h.lt⟩
/-- what is known of a block of 4 cells -/
structure Four (W : World) (b : Nat) (x y z t : Value) : Prop where
  c0 : W.cell? ⟨b, 0, none⟩ = some x
  c1 : W.cell? ⟨b, 1, none⟩ = some y
  c2 : W.cell? ⟨b, 2, none⟩ = some z
  c3 : W.cell? ⟨b, 3, none⟩ = some t
  f0 : W.frozen? ⟨b, 0, none⟩ = false
  f1 : W.frozen? ⟨b, 1, none⟩ = false
  f2 : W.frozen? ⟨b, 2, none⟩ = false
  f3 : W.frozen? ⟨b, 3, none⟩ = false
  lt : b < W.heap.size
theorem four_start (w : World) (x y z t : Value) (T : TypeId) (b : Nat) (hb : b = w.heap.size) : Four (w.alloc (.cells #[x, y, z, t] T)) b x y z t := by
  subst hb; exact ⟨by simp, by simp, by simp, by simp, by simp, by simp, by simp, by simp, by simp⟩
theorem Four.on {W W' : World} {b : Nat} {x y z t : Value} (h : Four W b x y z t) (hb : Below W.heap.size W W') : Four W' b x y z t :=
  ⟨(hb.cell (p := ⟨b, 0, none⟩) h.lt).trans h.c0, (hb.cell (p := ⟨b, 1, none⟩) h.lt).trans h.c1, (hb.cell (p := ⟨b, 2, none⟩) h.lt).trans h.c2, (hb.cell (p := ⟨b, 3, none⟩) h.lt).trans h.c3, (hb.frozen (p := ⟨b, 0, none⟩) h.lt).trans h.f0, (hb.frozen (p := ⟨b, 1, none⟩) h.lt).trans h.f1, (hb.frozen (p := ⟨b, 2, none⟩) h.lt).trans h.f2, (hb.frozen (p := ⟨b, 3, none⟩) h.lt).trans h.f3, Nat.lt_of_lt_of_le h.lt hb.size⟩
theorem Four.onB {W W' : World} {b B : Nat} {x y z t : Value} (h : Four W b x y z t) (hb : Below B W W') (hlt : b < B) : Four W' b x y z t :=
  ⟨(hb.cell (p := ⟨b, 0, none⟩) hlt).trans h.c0, (hb.cell (p := ⟨b, 1, none⟩) hlt).trans h.c1, (hb.cell (p := ⟨b, 2, none⟩) hlt).trans h.c2, (hb.cell (p := ⟨b, 3, none⟩) hlt).trans h.c3, (hb.frozen (p := ⟨b, 0, none⟩) hlt).trans h.f0, (hb.frozen (p := ⟨b, 1, none⟩) hlt).trans h.f1, (hb.frozen (p := ⟨b, 2, none⟩) hlt).trans h.f2, (hb.frozen (p := ⟨b, 3, none⟩) hlt).trans h.f3, Nat.lt_of_lt_of_le h.lt hb.size⟩
theorem Four.drew {W : World} {b : Nat} {x y z t : Value} (h : Four W b x y z t) : Four W.drew b x y z t := ⟨h.c0, h.c1, h.c2, h.c3, h.f0, h.f1, h.f2, h.f3, h.lt⟩
theorem Four.drewN {W : World} {b : Nat} {x y z t : Value} (h : Four W b x y z t) (q : Nat) : Four (W.drewN q) b x y z t := ⟨h.c0, h.c1, h.c2, h.c3, h.f0, h.f1, h.f2, h.f3, h.lt⟩
theorem Four.alloc {W : World} {b : Nat} {x y z t : Value} (h : Four W b x y z t) (o : Obj) : Four (W.alloc o) b x y z t := h.on ((Below.refl _ _).alloc (Nat.le_refl _) o)
theorem Four.other {W : World} {b b' j : Nat} {x y z t u : Value} (h : Four W b x y z t) (hne : b ≠ b') : Four (W.setCell ⟨b', j, none⟩ u) b x y z t :=
  ⟨(World.cell?_of_block (Below.heap_setCell W ⟨b', j, none⟩ u b (by simpa using hne))).trans h.c0, (World.cell?_of_block (Below.heap_setCell W ⟨b', j, none⟩ u b (by simpa using hne))).trans h.c1, (World.cell?_of_block (Below.heap_setCell W ⟨b', j, none⟩ u b (by simpa using hne))).trans h.c2, (World.cell?_of_block (Below.heap_setCell W ⟨b', j, none⟩ u b (by simpa using hne))).trans h.c3, (World.frozen?_of_block (Below.heap_setCell W ⟨b', j, none⟩ u b (by simpa using hne))).trans h.f0, (World.frozen?_of_block (Below.heap_setCell W ⟨b', j, none⟩ u b (by simpa using hne))).trans h.f1, (World.frozen?_of_block (Below.heap_setCell W ⟨b', j, none⟩ u b (by simpa using hne))).trans h.f2, (World.frozen?_of_block (Below.heap_setCell W ⟨b', j, none⟩ u b (by simpa using hne))).trans h.f3, by simpa using h.lt⟩
/-- what is known of a block of 11 cells -/
structure Eleven (W : World) (b : Nat) (a c d e f g h' i k l m : Value) : Prop where
  c0 : W.cell? ⟨b, 0, none⟩ = some a
  c1 : W.cell? ⟨b, 1, none⟩ = some c
  c2 : W.cell? ⟨b, 2, none⟩ = some d
  c3 : W.cell? ⟨b, 3, none⟩ = some e
  c4 : W.cell? ⟨b, 4, none⟩ = some f
  c5 : W.cell? ⟨b, 5, none⟩ = some g
  c6 : W.cell? ⟨b, 6, none⟩ = some h'
  c7 : W.cell? ⟨b, 7, none⟩ = some i
  c8 : W.cell? ⟨b, 8, none⟩ = some k
  c9 : W.cell? ⟨b, 9, none⟩ = some l
  c10 : W.cell? ⟨b, 10, none⟩ = some m
  f0 : W.frozen? ⟨b, 0, none⟩ = false
  f1 : W.frozen? ⟨b, 1, none⟩ = false
  f2 : W.frozen? ⟨b, 2, none⟩ = false
  f3 : W.frozen? ⟨b, 3, none⟩ = false
  f4 : W.frozen? ⟨b, 4, none⟩ = false
  f5 : W.frozen? ⟨b, 5, none⟩ = false
  f6 : W.frozen? ⟨b, 6, none⟩ = false
  f7 : W.frozen? ⟨b, 7, none⟩ = false
  f8 : W.frozen? ⟨b, 8, none⟩ = false
  f9 : W.frozen? ⟨b, 9, none⟩ = false
  f10 : W.frozen? ⟨b, 10, none⟩ = false
  lt : b < W.heap.size
theorem eleven_start (w : World) (a c d e f g h' i k l m : Value) (T : TypeId) (b : Nat) (hb : b = w.heap.size) : Eleven (w.alloc (.cells #[a, c, d, e, f, g, h', i, k, l, m] T)) b a c d e f g h' i k l m := by
  subst hb; exact ⟨by simp, by simp, by simp, by simp, by simp, by simp, by simp, by simp, by simp, by simp, by simp, by simp, by simp, by simp, by simp, by simp, by simp, by simp, by simp, by simp, by simp, by simp, by simp⟩
theorem Eleven.on {W W' : World} {b : Nat} {a c d e f g h' i k l m : Value} (h : Eleven W b a c d e f g h' i k l m) (hb : Below W.heap.size W W') : Eleven W' b a c d e f g h' i k l m :=
  ⟨(hb.cell (p := ⟨b, 0, none⟩) h.lt).trans h.c0, (hb.cell (p := ⟨b, 1, none⟩) h.lt).trans h.c1, (hb.cell (p := ⟨b, 2, none⟩) h.lt).trans h.c2, (hb.cell (p := ⟨b, 3, none⟩) h.lt).trans h.c3, (hb.cell (p := ⟨b, 4, none⟩) h.lt).trans h.c4, (hb.cell (p := ⟨b, 5, none⟩) h.lt).trans h.c5, (hb.cell (p := ⟨b, 6, none⟩) h.lt).trans h.c6, (hb.cell (p := ⟨b, 7, none⟩) h.lt).trans h.c7, (hb.cell (p := ⟨b, 8, none⟩) h.lt).trans h.c8, (hb.cell (p := ⟨b, 9, none⟩) h.lt).trans h.c9, (hb.cell (p := ⟨b, 10, none⟩) h.lt).trans h.c10, (hb.frozen (p := ⟨b, 0, none⟩) h.lt).trans h.f0, (hb.frozen (p := ⟨b, 1, none⟩) h.lt).trans h.f1, (hb.frozen (p := ⟨b, 2, none⟩) h.lt).trans h.f2, (hb.frozen (p := ⟨b, 3, none⟩) h.lt).trans h.f3, (hb.frozen (p := ⟨b, 4, none⟩) h.lt).trans h.f4, (hb.frozen (p := ⟨b, 5, none⟩) h.lt).trans h.f5, (hb.frozen (p := ⟨b, 6, none⟩) h.lt).trans h.f6, (hb.frozen (p := ⟨b, 7, none⟩) h.lt).trans h.f7, (hb.frozen (p := ⟨b, 8, none⟩) h.lt).trans h.f8, (hb.frozen (p := ⟨b, 9, none⟩) h.lt).trans h.f9, (hb.frozen (p := ⟨b, 10, none⟩) h.lt).trans h.f10, Nat.lt_of_lt_of_le h.lt hb.size⟩
theorem Eleven.onB {W W' : World} {b B : Nat} {a c d e f g h' i k l m : Value} (h : Eleven W b a c d e f g h' i k l m) (hb : Below B W W') (hlt : b < B) : Eleven W' b a c d e f g h' i k l m :=
  ⟨(hb.cell (p := ⟨b, 0, none⟩) hlt).trans h.c0, (hb.cell (p := ⟨b, 1, none⟩) hlt).trans h.c1, (hb.cell (p := ⟨b, 2, none⟩) hlt).trans h.c2, (hb.cell (p := ⟨b, 3, none⟩) hlt).trans h.c3, (hb.cell (p := ⟨b, 4, none⟩) hlt).trans h.c4, (hb.cell (p := ⟨b, 5, none⟩) hlt).trans h.c5, (hb.cell (p := ⟨b, 6, none⟩) hlt).trans h.c6, (hb.cell (p := ⟨b, 7, none⟩) hlt).trans h.c7, (hb.cell (p := ⟨b, 8, none⟩) hlt).trans h.c8, (hb.cell (p := ⟨b, 9, none⟩) hlt).trans h.c9, (hb.cell (p := ⟨b, 10, none⟩) hlt).trans h.c10, (hb.frozen (p := ⟨b, 0, none⟩) hlt).trans h.f0, (hb.frozen (p := ⟨b, 1, none⟩) hlt).trans h.f1, (hb.frozen (p := ⟨b, 2, none⟩) hlt).trans h.f2, (hb.frozen (p := ⟨b, 3, none⟩) hlt).trans h.f3, (hb.frozen (p := ⟨b, 4, none⟩) hlt).trans h.f4, (hb.frozen (p := ⟨b, 5, none⟩) hlt).trans h.f5, (hb.frozen (p := ⟨b, 6, none⟩) hlt).trans h.f6, (hb.frozen (p := ⟨b, 7, none⟩) hlt).trans h.f7, (hb.frozen (p := ⟨b, 8, none⟩) hlt).trans h.f8, (hb.frozen (p := ⟨b, 9, none⟩) hlt).trans h.f9, (hb.frozen (p := ⟨b, 10, none⟩) hlt).trans h.f10, Nat.lt_of_lt_of_le h.lt hb.size⟩
theorem Eleven.drew {W : World} {b : Nat} {a c d e f g h' i k l m : Value} (h : Eleven W b a c d e f g h' i k l m) : Eleven W.drew b a c d e f g h' i k l m := ⟨h.c0, h.c1, h.c2, h.c3, h.c4, h.c5, h.c6, h.c7, h.c8, h.c9, h.c10, h.f0, h.f1, h.f2, h.f3, h.f4, h.f5, h.f6, h.f7, h.f8, h.f9, h.f10, h.lt⟩
theorem Eleven.drewN {W : World} {b : Nat} {a c d e f g h' i k l m : Value} (h : Eleven W b a c d e f g h' i k l m) (q : Nat) : Eleven (W.drewN q) b a c d e f g h' i k l m := ⟨h.c0, h.c1, h.c2, h.c3, h.c4, h.c5, h.c6, h.c7, h.c8, h.c9, h.c10, h.f0, h.f1, h.f2, h.f3, h.f4, h.f5, h.f6, h.f7, h.f8, h.f9, h.f10, h.lt⟩
theorem Eleven.alloc {W : World} {b : Nat} {a c d e f g h' i k l m : Value} (h : Eleven W b a c d e f g h' i k l m) (o : Obj) : Eleven (W.alloc o) b a c d e f g h' i k l m := h.on ((Below.refl _ _).alloc (Nat.le_refl _) o)
theorem Eleven.other {W : World} {b b' j : Nat} {a c d e f g h' i k l m u : Value} (h : Eleven W b a c d e f g h' i k l m) (hne : b ≠ b') : Eleven (W.setCell ⟨b', j, none⟩ u) b a c d e f g h' i k l m :=
  ⟨(World.cell?_of_block (Below.heap_setCell W ⟨b', j, none⟩ u b (by simpa using hne))).trans h.c0, (World.cell?_of_block (Below.heap_setCell W ⟨b', j, none⟩ u b (by simpa using hne))).trans h.c1, (World.cell?_of_block (Below.heap_setCell W ⟨b', j, none⟩ u b (by simpa using hne))).trans h.c2, (World.cell?_of_block (Below.heap_setCell W ⟨b', j, none⟩ u b (by simpa using hne))).trans h.c3, (World.cell?_of_block (Below.heap_setCell W ⟨b', j, none⟩ u b (by simpa using hne))).trans h.c4, (World.cell?_of_block (Below.heap_setCell W ⟨b', j, none⟩ u b (by simpa using hne))).trans h.c5, (World.cell?_of_block (Below.heap_setCell W ⟨b', j, none⟩ u b (by simpa using hne))).trans h.c6, (World.cell?_of_block (Below.heap_setCell W ⟨b', j, none⟩ u b (by simpa using hne))).trans h.c7, (World.cell?_of_block (Below.heap_setCell W ⟨b', j, none⟩ u b (by simpa using hne))).trans h.c8, (World.cell?_of_block (Below.heap_setCell W ⟨b', j, none⟩ u b (by simpa using hne))).trans h.c9, (World.cell?_of_block (Below.heap_setCell W ⟨b', j, none⟩ u b (by simpa using hne))).trans h.c10, (World.frozen?_of_block (Below.heap_setCell W ⟨b', j, none⟩ u b (by simpa using hne))).trans h.f0, (World.frozen?_of_block (Below.heap_setCell W ⟨b', j, none⟩ u b (by simpa using hne))).trans h.f1, (World.frozen?_of_block (Below.heap_setCell W ⟨b', j, none⟩ u b (by simpa using hne))).trans h.f2, (World.frozen?_of_block (Below.heap_setCell W ⟨b', j, none⟩ u b (by simpa using hne))).trans h.f3, (World.frozen?_of_block (Below.heap_setCell W ⟨b', j, none⟩ u b (by simpa using hne))).trans h.f4, (World.frozen?_of_block (Below.heap_setCell W ⟨b', j, none⟩ u b (by simpa using hne))).trans h.f5, (World.frozen?_of_block (Below.heap_setCell W ⟨b', j, none⟩ u b (by simpa using hne))).trans h.f6, (World.frozen?_of_block (Below.heap_setCell W ⟨b', j, none⟩ u b (by simpa using hne))).trans h.f7, (World.frozen?_of_block (Below.heap_setCell W ⟨b', j, none⟩ u b (by simpa using hne))).trans h.f8, (World.frozen?_of_block (Below.heap_setCell W ⟨b', j, none⟩ u b (by simpa using hne))).trans h.f9, (World.frozen?_of_block (Below.heap_setCell W ⟨b', j, none⟩ u b (by simpa using hne))).trans h.f10, by simpa using h.lt⟩
theorem three_begin (w : World) (x y z : Value) (T : TypeId) (b : Nat) (hb : b = w.heap.size) : Three (w.alloc (.cells #[x, y, z] T)) b x y z := by subst hb; exact three_start w x y z T
theorem cell_set_ne (W : World) (b i j : Nat) (u : Value) (h : i ≠ j) : (W.setCell ⟨b, i, none⟩ u).cell? ⟨b, j, none⟩ = W.cell? ⟨b, j, none⟩ := World.cell?_setCell_other _ ⟨b, i, none⟩ ⟨b, j, none⟩ _ (fun e => h (Addr.mk.inj e).2.1)
theorem Four.set_all {W : World} {b : Nat} {x y z t : Value} (h : Four W b x y z t) (x' y' z' t' : Value) : Four ((((W.setCell ⟨b, 0, none⟩ x').setCell ⟨b, 1, none⟩ y').setCell ⟨b, 2, none⟩ z').setCell ⟨b, 3, none⟩ t') b x' y' z' t' := by
  refine ⟨?_, ?_, ?_, ?_, by simp [h.f0], by simp [h.f1], by simp [h.f2], by simp [h.f3], by simpa using h.lt⟩
  · rw [cell_set_ne _ _ _ _ _ (by decide), cell_set_ne _ _ _ _ _ (by decide), cell_set_ne _ _ _ _ _ (by decide)]; exact World.cell?_setCell_same _ _ _ h.c0
  · rw [cell_set_ne _ _ _ _ _ (by decide), cell_set_ne _ _ _ _ _ (by decide)]; exact World.cell?_setCell_same _ _ _ ((cell_set_ne _ _ _ _ _ (by decide)).trans h.c1)
  · rw [cell_set_ne _ _ _ _ _ (by decide)]; exact World.cell?_setCell_same _ _ _ ((cell_set_ne _ _ _ _ _ (by decide)).trans ((cell_set_ne _ _ _ _ _ (by decide)).trans h.c2))
  · exact World.cell?_setCell_same _ _ _ ((cell_set_ne _ _ _ _ _ (by decide)).trans ((cell_set_ne _ _ _ _ _ (by decide)).trans ((cell_set_ne _ _ _ _ _ (by decide)).trans h.c3)))
theorem Three.set_all {W : World} {b : Nat} {x y z : Value} (h : Three W b x y z) (x' y' z' : Value) : Three (((W.setCell ⟨b, 0, none⟩ x').setCell ⟨b, 1, none⟩ y').setCell ⟨b, 2, none⟩ z') b x' y' z' := by
  refine ⟨?_, ?_, ?_, by simp [h.f0], by simp [h.f1], by simp [h.f2], by simpa using h.lt⟩
  · rw [cell_set_ne _ _ _ _ _ (by decide), cell_set_ne _ _ _ _ _ (by decide)]; exact World.cell?_setCell_same _ _ _ h.c0
  · rw [cell_set_ne _ _ _ _ _ (by decide)]; exact World.cell?_setCell_same _ _ _ ((cell_set_ne _ _ _ _ _ (by decide)).trans h.c1)
  · exact World.cell?_setCell_same _ _ _ ((cell_set_ne _ _ _ _ _ (by decide)).trans ((cell_set_ne _ _ _ _ _ (by decide)).trans h.c2))
end Go.Proofs.YtfhfedcamcpceaaDoor
/- The table of shapes. -/
namespace Go.Proofs.YtfhfedcamcpceaaDoor
open Go.ChangeShapes Go.WideShapes Go.ChangeAt Go.RowKit Go.Joins Go.Deep Go.Lib

/-- a kind's shape -/
structure Shp where
  kind : Nat
  name : List UInt8
  id : Bool
  nums : Nat
  low : Int
  high : Int
  pic : Bool
/-- all of them -/
def shps : List Shp := [
  ⟨1, [72, 69, 65, 68], false, 2, 1, 8, false⟩,
  ⟨2, [80, 73, 67, 84], true, 0, 0, 0, true⟩,
  ⟨3, [77, 79, 86, 69], true, 2, (-20), 20, false⟩,
  ⟨4, [67, 76, 73, 80], true, 4, 0, 0, false⟩,
  ⟨5, [83, 72, 79, 87], true, 1, 0, 1, false⟩,
  ⟨6, [67, 79, 80, 89], true, 1, 1, 6, false⟩,
  ⟨7, [68, 82, 79, 80], true, 0, 0, 0, false⟩,
  ⟨8, [80, 65, 68, 68], true, 2, (-20), 20, true⟩,
  ⟨9, [80, 80, 85, 84], true, 2, (-20), 20, true⟩,
  ⟨10, [66, 65, 67, 75], false, 2, 0, 255, false⟩,
  ⟨11, [87, 65, 73, 84], false, 1, 0, 99, false⟩,
  ⟨12, [76, 79, 79, 80], false, 1, 0, 9, false⟩,
  ⟨13, [78, 69, 88, 84], false, 0, 0, 0, false⟩,
  ⟨14, [83, 65, 86, 69], false, 0, 0, 0, false⟩,
  ⟨15, [83, 69, 69, 75], false, 0, 0, 0, false⟩,
  ⟨16, [69, 78, 68, 83], false, 0, 0, 0, false⟩]
/-- a name, as bytes -/
def Shp.bytes (s : Shp) : ByteArray := ⟨s.name.toArray⟩
def Shp.cells (s : Shp) : List Value := [.int .i64 (s.kind : Int), .string s.bytes, .bool s.id, .int .i64 (s.nums : Int), .int .i64 s.low, .int .i64 s.high, .bool s.pic]
def Shp.val (s : Shp) : Value := .agg #[.int .i64 (s.kind : Int), .string s.bytes, .bool s.id, .int .i64 (s.nums : Int), .int .i64 s.low, .int .i64 s.high, .bool s.pic]
def Shp.data {H : Type} (s : Shp) : DataW H := .agg [.lit (.int .i64 (s.kind : Int)), .lit (.string s.name), .lit (.bool s.id), .lit (.int .i64 (s.nums : Int)), .lit (.int .i64 s.low), .lit (.int .i64 s.high), .lit (.bool s.pic)]

theorem laid_is {H : Type} : (Rows.laid_flickerbook_op_shapes : DataW H) = .agg (shps.map Shp.data) := rfl

/-- the table lies where the program has it -/
def Shapes (W : World) : Prop := ∀ k s, shps[k]? = some s → ∀ j u, s.cells[j]? = some u → W.cell? ⟨3, 7 * k + j, none⟩ = some u

theorem Tryd.cellsShp : Tryd.prog.cellsOf 56 = 7 := by kernel_rfl
theorem Tryd.cellsShps : Tryd.prog.cellsOf 103 = 112 := by kernel_rfl
theorem Tryd.cellsI : Tryd.prog.cellsOf 3 = 1 := by kernel_rfl
theorem Tryd.cellsS : Tryd.prog.cellsOf 9 = 1 := by kernel_rfl
theorem Tryd.cellsB : Tryd.prog.cellsOf 4 = 1 := by kernel_rfl

set_option maxRecDepth 100000 in
theorem shp_cells {H : Type} {enc : TypeId × Value → H} {W : World} {cs : List Value} {base : Nat} {sp : Nat → Bool} {held : Bool} {fuel : Nat} {z : DataW H × List MemPlace} (s : Shp) (hl : cs.length = 7)
    (h : DataW.trod enc Tryd.prog W base sp held fuel 56 cs = some z) (hz : z.1 = s.data) : cs = s.cells := by
  obtain ⟨xs, n, _, rfl, hl', hlen, hf⟩ := DataW.trod_struct Tryd.underlying56 h
  match cs, hl with
  | [c0, c1, c2, c3, c4, c5, c6], _ =>
    match xs, hlen with
    | [y0, y1, y2, y3, y4, y5, y6], _ =>
      have h0 : DataW.trod enc Tryd.prog W base sp held n 3 [c0] = some y0 := by have := hf 0 _ rfl; simpa [Tryd.cellsI] using this
      have h1 : DataW.trod enc Tryd.prog W base sp held n 9 [c1] = some y1 := by have := hf 1 _ rfl; simpa [Tryd.cellsS] using this
      have h2 : DataW.trod enc Tryd.prog W base sp held n 4 [c2] = some y2 := by have := hf 2 _ rfl; simpa [Tryd.cellsB] using this
      have h3 : DataW.trod enc Tryd.prog W base sp held n 3 [c3] = some y3 := by have := hf 3 _ rfl; simpa [Tryd.cellsI] using this
      have h4 : DataW.trod enc Tryd.prog W base sp held n 3 [c4] = some y4 := by have := hf 4 _ rfl; simpa [Tryd.cellsI] using this
      have h5 : DataW.trod enc Tryd.prog W base sp held n 3 [c5] = some y5 := by have := hf 5 _ rfl; simpa [Tryd.cellsI] using this
      have h6 : DataW.trod enc Tryd.prog W base sp held n 4 [c6] = some y6 := by have := hf 6 _ rfl; simpa [Tryd.cellsB] using this
      obtain ⟨i0, e0, rfl, _⟩ := DataW.trod_int Tryd.underlying3 h0
      obtain ⟨i1, e1, rfl, _⟩ := DataW.trod_string Tryd.underlying9 h1
      obtain ⟨i2, e2, rfl⟩ := DataW.trod_bool Tryd.underlying4 h2
      obtain ⟨i3, e3, rfl, _⟩ := DataW.trod_int Tryd.underlying3 h3
      obtain ⟨i4, e4, rfl, _⟩ := DataW.trod_int Tryd.underlying3 h4
      obtain ⟨i5, e5, rfl, _⟩ := DataW.trod_int Tryd.underlying3 h5
      obtain ⟨i6, e6, rfl⟩ := DataW.trod_bool Tryd.underlying4 h6
      simp [Shp.data] at hz
      obtain ⟨rfl, z1, rfl, rfl, rfl, rfl, rfl⟩ := hz
      simp at e0 e1 e2 e3 e4 e5 e6
      subst e0 e1 e2 e3 e4 e5 e6
      have hb : i1 = s.bytes := by unfold Shp.bytes; rw [← z1]
      rw [hb]
      rfl

theorem shps_len : shps.length = 16 := rfl

theorem shapes_of_laid {W : World} {rest : List (String × DataW Unit)} (h : laidMet Tryd.prog (("flickerbook/op.shapes", Rows.laid_flickerbook_op_shapes) :: rest) W) : Shapes W := by
  obtain ⟨ps, ⟨g', t', cs, fuel, p, q, hg', ht', hvar, hd, _, _⟩, _⟩ := h
  obtain rfl := Option.some.inj ((show Tryd.prog.globalNamed "flickerbook/op.shapes" = some 3 by kernel_rfl).symm.trans hg')
  obtain rfl := Option.some.inj ((show (Tryd.prog.globals[3]?).map (·.type) = some 103 by kernel_rfl).symm.trans ht')
  rw [laid_is] at hd
  cases fuel with
  | zero => simp [DataW.trod] at hd
  | succ fuel =>
    simp only [DataW.trod, Tryd.underlying103, Tryd.cellsShp, Tryd.cellsShps] at hd
    split at hd
    · rename_i hlen
      obtain ⟨xs, hm, hx⟩ := Option.map_eq_some_iff.1 hd
      have hxs : xs.map (·.1) = shps.map Shp.data := by
        have := congrArg Prod.fst hx
        simpa using this
      intro k s hk j u hu
      have hk16 : k < 16 := by
        rcases Nat.lt_or_ge k 16 with h | h
        · exact h
        · rw [List.getElem?_eq_none (by rw [shps_len]; exact h)] at hk; cases hk
      obtain ⟨b, hb, hf⟩ := mapM_at hm k k (by simp [hk16])
      have hb1 : b.1 = s.data := by
        have h2 : (xs.map (·.1))[k]? = some b.1 := by simp [hb]
        rw [hxs, List.getElem?_map, hk] at h2
        exact (Option.some.inj h2).symm
      have hc := shp_cells s (by rw [List.length_take, List.length_drop, hlen]; omega) hf hb1
      have hj : j < 7 := by
        rcases Nat.lt_or_ge j 7 with h | h
        · exact h
        · rw [List.getElem?_eq_none (by simp [Shp.cells]; exact h)] at hu; cases hu
      rw [← hc, List.getElem?_take, if_pos hj, List.getElem?_drop] at hu
      rw [World.var?_cell hg' hvar, ← hu]
      simp [Nat.mul_comm]
    · cases hd
end Go.Proofs.YtfhfedcamcpceaaDoor
/- Blocks of seven and of nine cells. -/
namespace Go.Proofs.YtfhfedcamcpceaaDoor
open Go.RowKit

structure Seven (W : World) (b : Nat) (x0 x1 x2 x3 x4 x5 x6 : Value) : Prop where
  c0 : W.cell? ⟨b, 0, none⟩ = some x0
  c1 : W.cell? ⟨b, 1, none⟩ = some x1
  c2 : W.cell? ⟨b, 2, none⟩ = some x2
  c3 : W.cell? ⟨b, 3, none⟩ = some x3
  c4 : W.cell? ⟨b, 4, none⟩ = some x4
  c5 : W.cell? ⟨b, 5, none⟩ = some x5
  c6 : W.cell? ⟨b, 6, none⟩ = some x6
  f0 : W.frozen? ⟨b, 0, none⟩ = false
  f1 : W.frozen? ⟨b, 1, none⟩ = false
  f2 : W.frozen? ⟨b, 2, none⟩ = false
  f3 : W.frozen? ⟨b, 3, none⟩ = false
  f4 : W.frozen? ⟨b, 4, none⟩ = false
  f5 : W.frozen? ⟨b, 5, none⟩ = false
  f6 : W.frozen? ⟨b, 6, none⟩ = false
  lt : b < W.heap.size
theorem seven_start (w : World) (x0 x1 x2 x3 x4 x5 x6 : Value) (T : TypeId) (b : Nat) (hb : b = w.heap.size) : Seven (w.alloc (.cells #[x0, x1, x2, x3, x4, x5, x6] T)) b x0 x1 x2 x3 x4 x5 x6 := by
  subst hb; exact ⟨by simp, by simp, by simp, by simp, by simp, by simp, by simp, by simp, by simp, by simp, by simp, by simp, by simp, by simp, by simp⟩
theorem Seven.onB {W W' : World} {b : Nat} {x0 x1 x2 x3 x4 x5 x6 : Value} {B : Nat} (h : Seven W b x0 x1 x2 x3 x4 x5 x6) (hb : Below B W W') (hlt : b < B) : Seven W' b x0 x1 x2 x3 x4 x5 x6 :=
  ⟨(hb.cell (p := ⟨b, 0, none⟩) hlt).trans h.c0, (hb.cell (p := ⟨b, 1, none⟩) hlt).trans h.c1, (hb.cell (p := ⟨b, 2, none⟩) hlt).trans h.c2, (hb.cell (p := ⟨b, 3, none⟩) hlt).trans h.c3, (hb.cell (p := ⟨b, 4, none⟩) hlt).trans h.c4, (hb.cell (p := ⟨b, 5, none⟩) hlt).trans h.c5, (hb.cell (p := ⟨b, 6, none⟩) hlt).trans h.c6, (hb.frozen (p := ⟨b, 0, none⟩) hlt).trans h.f0, (hb.frozen (p := ⟨b, 1, none⟩) hlt).trans h.f1, (hb.frozen (p := ⟨b, 2, none⟩) hlt).trans h.f2, (hb.frozen (p := ⟨b, 3, none⟩) hlt).trans h.f3, (hb.frozen (p := ⟨b, 4, none⟩) hlt).trans h.f4, (hb.frozen (p := ⟨b, 5, none⟩) hlt).trans h.f5, (hb.frozen (p := ⟨b, 6, none⟩) hlt).trans h.f6, Nat.lt_of_lt_of_le h.lt hb.size⟩
theorem Seven.on {W W' : World} {b : Nat} {x0 x1 x2 x3 x4 x5 x6 : Value} (h : Seven W b x0 x1 x2 x3 x4 x5 x6) (hb : Below W.heap.size W W') : Seven W' b x0 x1 x2 x3 x4 x5 x6 := h.onB hb h.lt
theorem Seven.drew {W : World} {b : Nat} {x0 x1 x2 x3 x4 x5 x6 : Value} (h : Seven W b x0 x1 x2 x3 x4 x5 x6) : Seven W.drew b x0 x1 x2 x3 x4 x5 x6 := ⟨h.c0, h.c1, h.c2, h.c3, h.c4, h.c5, h.c6, h.f0, h.f1, h.f2, h.f3, h.f4, h.f5, h.f6, h.lt⟩
theorem Seven.alloc {W : World} {b : Nat} {x0 x1 x2 x3 x4 x5 x6 : Value} (h : Seven W b x0 x1 x2 x3 x4 x5 x6) (o : Obj) : Seven (W.alloc o) b x0 x1 x2 x3 x4 x5 x6 := h.on ((Below.refl _ _).alloc (Nat.le_refl _) o)
structure Nine (W : World) (b : Nat) (x0 x1 x2 x3 x4 x5 x6 x7 x8 : Value) : Prop where
  c0 : W.cell? ⟨b, 0, none⟩ = some x0
  c1 : W.cell? ⟨b, 1, none⟩ = some x1
  c2 : W.cell? ⟨b, 2, none⟩ = some x2
  c3 : W.cell? ⟨b, 3, none⟩ = some x3
  c4 : W.cell? ⟨b, 4, none⟩ = some x4
  c5 : W.cell? ⟨b, 5, none⟩ = some x5
  c6 : W.cell? ⟨b, 6, none⟩ = some x6
  c7 : W.cell? ⟨b, 7, none⟩ = some x7
  c8 : W.cell? ⟨b, 8, none⟩ = some x8
  f0 : W.frozen? ⟨b, 0, none⟩ = false
  f1 : W.frozen? ⟨b, 1, none⟩ = false
  f2 : W.frozen? ⟨b, 2, none⟩ = false
  f3 : W.frozen? ⟨b, 3, none⟩ = false
  f4 : W.frozen? ⟨b, 4, none⟩ = false
  f5 : W.frozen? ⟨b, 5, none⟩ = false
  f6 : W.frozen? ⟨b, 6, none⟩ = false
  f7 : W.frozen? ⟨b, 7, none⟩ = false
  f8 : W.frozen? ⟨b, 8, none⟩ = false
  lt : b < W.heap.size
theorem nine_start (w : World) (x0 x1 x2 x3 x4 x5 x6 x7 x8 : Value) (T : TypeId) (b : Nat) (hb : b = w.heap.size) : Nine (w.alloc (.cells #[x0, x1, x2, x3, x4, x5, x6, x7, x8] T)) b x0 x1 x2 x3 x4 x5 x6 x7 x8 := by
  subst hb; exact ⟨by simp, by simp, by simp, by simp, by simp, by simp, by simp, by simp, by simp, by simp, by simp, by simp, by simp, by simp, by simp, by simp, by simp, by simp, by simp⟩
theorem Nine.onB {W W' : World} {b : Nat} {x0 x1 x2 x3 x4 x5 x6 x7 x8 : Value} {B : Nat} (h : Nine W b x0 x1 x2 x3 x4 x5 x6 x7 x8) (hb : Below B W W') (hlt : b < B) : Nine W' b x0 x1 x2 x3 x4 x5 x6 x7 x8 :=
  ⟨(hb.cell (p := ⟨b, 0, none⟩) hlt).trans h.c0, (hb.cell (p := ⟨b, 1, none⟩) hlt).trans h.c1, (hb.cell (p := ⟨b, 2, none⟩) hlt).trans h.c2, (hb.cell (p := ⟨b, 3, none⟩) hlt).trans h.c3, (hb.cell (p := ⟨b, 4, none⟩) hlt).trans h.c4, (hb.cell (p := ⟨b, 5, none⟩) hlt).trans h.c5, (hb.cell (p := ⟨b, 6, none⟩) hlt).trans h.c6, (hb.cell (p := ⟨b, 7, none⟩) hlt).trans h.c7, (hb.cell (p := ⟨b, 8, none⟩) hlt).trans h.c8, (hb.frozen (p := ⟨b, 0, none⟩) hlt).trans h.f0, (hb.frozen (p := ⟨b, 1, none⟩) hlt).trans h.f1, (hb.frozen (p := ⟨b, 2, none⟩) hlt).trans h.f2, (hb.frozen (p := ⟨b, 3, none⟩) hlt).trans h.f3, (hb.frozen (p := ⟨b, 4, none⟩) hlt).trans h.f4, (hb.frozen (p := ⟨b, 5, none⟩) hlt).trans h.f5, (hb.frozen (p := ⟨b, 6, none⟩) hlt).trans h.f6, (hb.frozen (p := ⟨b, 7, none⟩) hlt).trans h.f7, (hb.frozen (p := ⟨b, 8, none⟩) hlt).trans h.f8, Nat.lt_of_lt_of_le h.lt hb.size⟩
theorem Nine.on {W W' : World} {b : Nat} {x0 x1 x2 x3 x4 x5 x6 x7 x8 : Value} (h : Nine W b x0 x1 x2 x3 x4 x5 x6 x7 x8) (hb : Below W.heap.size W W') : Nine W' b x0 x1 x2 x3 x4 x5 x6 x7 x8 := h.onB hb h.lt
theorem Nine.drew {W : World} {b : Nat} {x0 x1 x2 x3 x4 x5 x6 x7 x8 : Value} (h : Nine W b x0 x1 x2 x3 x4 x5 x6 x7 x8) : Nine W.drew b x0 x1 x2 x3 x4 x5 x6 x7 x8 := ⟨h.c0, h.c1, h.c2, h.c3, h.c4, h.c5, h.c6, h.c7, h.c8, h.f0, h.f1, h.f2, h.f3, h.f4, h.f5, h.f6, h.f7, h.f8, h.lt⟩
theorem Nine.alloc {W : World} {b : Nat} {x0 x1 x2 x3 x4 x5 x6 x7 x8 : Value} (h : Nine W b x0 x1 x2 x3 x4 x5 x6 x7 x8) (o : Obj) : Nine (W.alloc o) b x0 x1 x2 x3 x4 x5 x6 x7 x8 := h.on ((Below.refl _ _).alloc (Nat.le_refl _) o)
end Go.Proofs.YtfhfedcamcpceaaDoor
