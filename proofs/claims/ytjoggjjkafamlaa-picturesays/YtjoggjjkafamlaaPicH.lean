/- Walk of picture.restore, way by way. -/
import Derived.Test.YtjoggjjkafamlaaPicC
import Derived.Test.YtjoggjjkafamlaaPicG2
namespace Go.Proofs.Ytjoggjjkafamlaa
open Go.RowKit

set_option maxHeartbeats 4000000 in
set_option maxRecDepth 100000 in
theorem restore0 (u : Value) (t : ByteArray) (ab : List UInt8) (w : World) (hlen : t.size ≤ 1000) (hpos : 0 < t.size) (HA : Hid (RdB w u ab)) :
    Calls Try.prog 31 #[.int .i64 0, .string t, u] w fun e w' => ∃ v, e = .returned v ∧ w'.ownsRow w.heap.size 5 1 v (Fb.restL 0 t.data.toList ab).length ((Fb.restL 0 t.data.toList ab).map bv) ∧ Below w.heap.size w w' := by
  obtain ⟨i0, hi, hz0, hz1, hz2⟩ := info_parts Try.infoByte
  obtain ⟨a2, cap2, hu, hl2, hc2, hh2⟩ := HA.out
  clear hl2 hh2
  have HN : Hid (t.data.toList.length = t.size) := by unfold Hid; simp
  obtain ⟨n, HNN⟩ : ∃ n, Hid (t.size = n) := ⟨_, (rfl : _ = _)⟩
  have hn1 : n ≤ t.size := by rw [HNN.out]; exact Nat.le_refl _
  have hn2 : t.size ≤ n := by rw [HNN.out]; exact Nat.le_refl _
  have htn : (t.size : Int) = (n : Int) := by rw [HNN.out]
  subst hu
  go_enter Try.func31, Try.ntmps31
  go_wp2_with (at_make; refine wpList_make_full _ rfl _ _ 54 rfl w.heap.size 5 i0 (.int .u8 0) 1 Try.underlying54 hi hz0 hz1 _ _ _ _ n rfl rfl ?a1 ?a2 ?b1 ?b2 ?b3 ?_)
  case a1 => first | rfl | omega
  case a2 => first | rfl | omega
  case b1 => rw [hz2]; omega
  case b2 => unfold maxLen; omega
  case b3 => exact Nat.le_refl _
  intro W0 hown0 hgrow0
  rw [made_zero] at hown0
  have hb0 : Below w.heap.size w W0 := (Below.refl _ _).grown hgrow0 (Nat.le_refl _) (by intro k hk; cases hk)
  have HO0 : Hid (W0.ownsRow w.heap.size 5 1 (.slice (some ⟨w.heap.size, 0, none⟩) n n) n ((List.replicate n (0 : UInt8)).map bv)) := hown0
  have hgl : w.heap.size < W0.heap.size := (hown0.lt w.heap.size rfl).2
  clear hgrow0 hown0
  have HGU : Hid (Calls Try.prog 40 #[.int .i64 0, .slice (some ⟨w.heap.size, 0, none⟩) n n, .slice a2 ab.length cap2] W0 fun e w' => e = .returned (.func (.func 45) #[] #[]) ∧ Boxes w' W0.heap.size (.slice (some ⟨w.heap.size, 0, none⟩) n n) (.slice a2 ab.length cap2) ∧ Below W0.heap.size W0 w') := guesser_any 0 (by decide) _ _ W0 n n ab.length cap2 _ a2 rfl rfl
  have HGC : Hid (GuessC 0 45 #[] W0.heap.size (.slice (some ⟨w.heap.size, 0, none⟩) n n) (.slice a2 ab.length cap2)) := guess0 _ _ _
  go_wp2_with fail
  refine Calls.mono HGU.out ?_
  rintro e w1 ⟨rfl, hbx, hb1⟩
  have HBX : Hid (Boxes w1 W0.heap.size (.slice (some ⟨w.heap.size, 0, none⟩) n n) (.slice a2 ab.length cap2)) := hbx
  have HO1 : Hid (w1.ownsRow w.heap.size 5 1 (.slice (some ⟨w.heap.size, 0, none⟩) n n) n ((List.replicate n (0 : UInt8)).map bv)) := own_on2 HO0.out hb1
  have HA1 : Hid (RdB w1 (.slice a2 ab.length cap2) ab) := (HA.out.on hb0).on hb1
  have hbw1 : Below w.heap.size w w1 := hb0.trans (hb1.mono hb0.size)
  clear hbx HGU
  go_wp2_with fail
  go_loopw [19] (fun i wr => ∃ k : Nat, k ≤ n ∧ i = .int .i64 k ∧ Below w.heap.size w wr ∧ Hid (Boxes wr W0.heap.size (.slice (some ⟨w.heap.size, 0, none⟩) n n) (.slice a2 ab.length cap2)) ∧ Hid (wr.ownsRow w.heap.size 5 1 (.slice (some ⟨w.heap.size, 0, none⟩) n n) n ((Fb.restTo 0 t.data.toList ab k ++ List.replicate (n - k) 0).map bv))) (fun i _ => n - (intOf i).toNat)
  case atStart => exact ⟨0, by omega, rfl, hbw1, HBX, HO1⟩
  case round =>
    obtain ⟨k, hk, rfl, hb, HBR, HOWN⟩ := hrel
    by_cases hlt : k < n
    · have hkt : k < t.size := by omega
      obtain ⟨x, HX⟩ : ∃ x, Hid (t.data.toList.getD k 0 = x) := ⟨_, (rfl : _ = _)⟩
      obtain ⟨xx, HXX⟩ : ∃ m, Hid (x.toNat = m) := ⟨_, (rfl : _ = _)⟩
      have hix := nat_at t k x HX xx HXX
      have hxb := byte_le x xx HXX
      obtain ⟨cur, HCUR⟩ : ∃ l : List UInt8, Hid (Fb.restTo 0 t.data.toList ab k ++ List.replicate (n - k) 0 = l) := ⟨Fb.restTo 0 t.data.toList ab k ++ List.replicate (n - k) 0, by unfold Hid; rfl⟩
      have HCL : Hid (cur.length = n) := by unfold Hid; rw [← HCUR.out, List.length_append, Fb.restTo_len, List.length_replicate]; omega
      obtain ⟨y, HY⟩ : ∃ x, Hid (Fb.guessB 0 cur ab k = x) := ⟨_, (rfl : _ = _)⟩
      obtain ⟨yy, HYY⟩ : ∃ m, Hid (y.toNat = m) := ⟨_, (rfl : _ = _)⟩
      have hyb := byte_le y yy HYY
      obtain ⟨dd, HDD⟩ : ∃ m, Hid ((x + y).toNat = m) := ⟨_, (rfl : _ = _)⟩
      have HGE : Hid (Fb.guessB 0 (Fb.restTo 0 t.data.toList ab k) ab k = y) := by
        unfold Hid; rw [← HY.out, ← HCUR.out]
        exact Fb.guess_ahead 0 _ _ ab k (fun j hj => (Fb.getD_app _ _ _ (by rw [Fb.restTo_len]; exact hj)).symm)
      have hadd : IntKind.u8.wrap ((xx : Int) + (yy : Int)) = (dd : Int) := by rw [← HXX.out, ← HYY.out, ← HDD.out]; exact add_byte x y
      have hfz := HOWN.out.frozenAt k
      have hcg : wr.cell? ⟨w.heap.size, k, none⟩ = some (.int .u8 0) := by
        rw [HOWN.out.cellAt k (by omega), List.getElem?_map, List.getElem?_append_right (by rw [Fb.restTo_len]; omega), Fb.restTo_len, Nat.sub_self, show n - k = (n - k - 1) + 1 by omega, List.replicate_succ]; rfl
      have HRC : Hid (RdB wr (.slice (some ⟨w.heap.size, 0, none⟩) n n) cur) := by
        have h := HOWN.out
        rw [HCUR.out] at h
        have h2 : wr.ownsRow w.heap.size 5 1 (.slice (some ⟨w.heap.size, 0, none⟩) n n) cur.length (cur.map bv) := by rw [HCL.out]; exact h
        exact rdB_own h2
      have HAR : Hid (RdB wr (.slice a2 ab.length cap2) ab) := HA.out.on hb
      have HCALL : Hid (Calls Try.prog 45 #[.int .i64 (k : Int)] wr.drew fun e W' => e = .returned (.int .u8 (yy : Int)) ∧ ∃ q, W' = wr.drew.drewN q) := by
        have h := HGC.out wr.drew cur ab k (by omega) (by rw [HCL.out]; omega) HBR.out.drew HRC.out.drew HAR.out.drew
        rw [HY.out, HYY.out] at h
        exact h
      have HSET : Hid (∀ m, ((wr.drewN m).setCell ⟨w.heap.size, k, none⟩ (.int .u8 (dd : Int))).ownsRow w.heap.size 5 1 (.slice (some ⟨w.heap.size, 0, none⟩) n n) n ((Fb.restTo 0 t.data.toList ab (k + 1) ++ List.replicate (n - (k + 1)) 0).map bv)) := by
        unfold Hid
        intro m
        have h := ((owns_drewN HOWN.out m).stored k (.int .u8 (dd : Int))).1
        have e : (.int .u8 (dd : Int) : Value) = bv (x + y) := by unfold bv; rw [HDD.out]
        rw [e, set_row _ _ k n hlt (Fb.restTo_len _ _ _ _)] at h
        rw [e, Fb.restTo, HX.out, HGE.out]
        exact h
      have HBS : Hid (∀ m, Boxes ((wr.drewN m).setCell ⟨w.heap.size, k, none⟩ (.int .u8 (dd : Int))) W0.heap.size (.slice (some ⟨w.heap.size, 0, none⟩) n n) (.slice a2 ab.length cap2)) := fun m => (HBR.out.drewN m).store (by omega) (by omega) (by omega) (by omega)
      go_upto_region 6 with fail
      go_region_with (go_at_call 45; refine Calls.mono HCALL.out ?_; rintro e w3 ⟨rfl, q, rfl⟩)
      all_goals go_wp2_with fail
      all_goals (go_roundw; (case rel => exact ⟨k + 1, by omega, by go_num, (below_drewN hb _).setCell (Nat.le_refl _) _, HBS.out _, HSET.out _⟩); (case measure => simp [intOf]; omega))
    · have hkn : k = n := by omega
      have HOWN2 : Hid (wr.ownsRow w.heap.size 5 1 (.slice (some ⟨w.heap.size, 0, none⟩) n n) (Fb.restL 0 t.data.toList ab).length ((Fb.restL 0 t.data.toList ab).map bv)) := by
        unfold Hid
        have h := HOWN.out
        rw [hkn, Nat.sub_self] at h
        unfold Fb.restL
        rw [Fb.restTo_len, HN.out, HNN.out]
        simpa using h
      clear hkn
      go_wp2_with fail
      go_ret
      exact ⟨_, rfl, HOWN2.out, hb⟩

set_option maxHeartbeats 4000000 in
set_option maxRecDepth 100000 in
theorem restore1 (u : Value) (t : ByteArray) (ab : List UInt8) (w : World) (hlen : t.size ≤ 1000) (hpos : 0 < t.size) (HA : Hid (RdB w u ab)) :
    Calls Try.prog 31 #[.int .i64 1, .string t, u] w fun e w' => ∃ v, e = .returned v ∧ w'.ownsRow w.heap.size 5 1 v (Fb.restL 1 t.data.toList ab).length ((Fb.restL 1 t.data.toList ab).map bv) ∧ Below w.heap.size w w' := by
  obtain ⟨i0, hi, hz0, hz1, hz2⟩ := info_parts Try.infoByte
  obtain ⟨a2, cap2, hu, hl2, hc2, hh2⟩ := HA.out
  clear hl2 hh2
  have HN : Hid (t.data.toList.length = t.size) := by unfold Hid; simp
  obtain ⟨n, HNN⟩ : ∃ n, Hid (t.size = n) := ⟨_, (rfl : _ = _)⟩
  have hn1 : n ≤ t.size := by rw [HNN.out]; exact Nat.le_refl _
  have hn2 : t.size ≤ n := by rw [HNN.out]; exact Nat.le_refl _
  have htn : (t.size : Int) = (n : Int) := by rw [HNN.out]
  subst hu
  go_enter Try.func31, Try.ntmps31
  go_wp2_with (at_make; refine wpList_make_full _ rfl _ _ 54 rfl w.heap.size 5 i0 (.int .u8 0) 1 Try.underlying54 hi hz0 hz1 _ _ _ _ n rfl rfl ?a1 ?a2 ?b1 ?b2 ?b3 ?_)
  case a1 => first | rfl | omega
  case a2 => first | rfl | omega
  case b1 => rw [hz2]; omega
  case b2 => unfold maxLen; omega
  case b3 => exact Nat.le_refl _
  intro W0 hown0 hgrow0
  rw [made_zero] at hown0
  have hb0 : Below w.heap.size w W0 := (Below.refl _ _).grown hgrow0 (Nat.le_refl _) (by intro k hk; cases hk)
  have HO0 : Hid (W0.ownsRow w.heap.size 5 1 (.slice (some ⟨w.heap.size, 0, none⟩) n n) n ((List.replicate n (0 : UInt8)).map bv)) := hown0
  have hgl : w.heap.size < W0.heap.size := (hown0.lt w.heap.size rfl).2
  clear hgrow0 hown0
  have HGU : Hid (Calls Try.prog 40 #[.int .i64 1, .slice (some ⟨w.heap.size, 0, none⟩) n n, .slice a2 ab.length cap2] W0 fun e w' => e = .returned (.func (.func 42) #[] #[.pointer (some ⟨W0.heap.size, 0, none⟩)]) ∧ Boxes w' W0.heap.size (.slice (some ⟨w.heap.size, 0, none⟩) n n) (.slice a2 ab.length cap2) ∧ Below W0.heap.size W0 w') := guesser_any 1 (by decide) _ _ W0 n n ab.length cap2 _ a2 rfl rfl
  have HGC : Hid (GuessC 1 42 #[.pointer (some ⟨W0.heap.size, 0, none⟩)] W0.heap.size (.slice (some ⟨w.heap.size, 0, none⟩) n n) (.slice a2 ab.length cap2)) := guess1 _ _ _
  go_wp2_with fail
  refine Calls.mono HGU.out ?_
  rintro e w1 ⟨rfl, hbx, hb1⟩
  have HBX : Hid (Boxes w1 W0.heap.size (.slice (some ⟨w.heap.size, 0, none⟩) n n) (.slice a2 ab.length cap2)) := hbx
  have HO1 : Hid (w1.ownsRow w.heap.size 5 1 (.slice (some ⟨w.heap.size, 0, none⟩) n n) n ((List.replicate n (0 : UInt8)).map bv)) := own_on2 HO0.out hb1
  have HA1 : Hid (RdB w1 (.slice a2 ab.length cap2) ab) := (HA.out.on hb0).on hb1
  have hbw1 : Below w.heap.size w w1 := hb0.trans (hb1.mono hb0.size)
  clear hbx HGU
  go_wp2_with fail
  go_loopw [19] (fun i wr => ∃ k : Nat, k ≤ n ∧ i = .int .i64 k ∧ Below w.heap.size w wr ∧ Hid (Boxes wr W0.heap.size (.slice (some ⟨w.heap.size, 0, none⟩) n n) (.slice a2 ab.length cap2)) ∧ Hid (wr.ownsRow w.heap.size 5 1 (.slice (some ⟨w.heap.size, 0, none⟩) n n) n ((Fb.restTo 1 t.data.toList ab k ++ List.replicate (n - k) 0).map bv))) (fun i _ => n - (intOf i).toNat)
  case atStart => exact ⟨0, by omega, rfl, hbw1, HBX, HO1⟩
  case round =>
    obtain ⟨k, hk, rfl, hb, HBR, HOWN⟩ := hrel
    by_cases hlt : k < n
    · have hkt : k < t.size := by omega
      obtain ⟨x, HX⟩ : ∃ x, Hid (t.data.toList.getD k 0 = x) := ⟨_, (rfl : _ = _)⟩
      obtain ⟨xx, HXX⟩ : ∃ m, Hid (x.toNat = m) := ⟨_, (rfl : _ = _)⟩
      have hix := nat_at t k x HX xx HXX
      have hxb := byte_le x xx HXX
      obtain ⟨cur, HCUR⟩ : ∃ l : List UInt8, Hid (Fb.restTo 1 t.data.toList ab k ++ List.replicate (n - k) 0 = l) := ⟨Fb.restTo 1 t.data.toList ab k ++ List.replicate (n - k) 0, by unfold Hid; rfl⟩
      have HCL : Hid (cur.length = n) := by unfold Hid; rw [← HCUR.out, List.length_append, Fb.restTo_len, List.length_replicate]; omega
      obtain ⟨y, HY⟩ : ∃ x, Hid (Fb.guessB 1 cur ab k = x) := ⟨_, (rfl : _ = _)⟩
      obtain ⟨yy, HYY⟩ : ∃ m, Hid (y.toNat = m) := ⟨_, (rfl : _ = _)⟩
      have hyb := byte_le y yy HYY
      obtain ⟨dd, HDD⟩ : ∃ m, Hid ((x + y).toNat = m) := ⟨_, (rfl : _ = _)⟩
      have HGE : Hid (Fb.guessB 1 (Fb.restTo 1 t.data.toList ab k) ab k = y) := by
        unfold Hid; rw [← HY.out, ← HCUR.out]
        exact Fb.guess_ahead 1 _ _ ab k (fun j hj => (Fb.getD_app _ _ _ (by rw [Fb.restTo_len]; exact hj)).symm)
      have hadd : IntKind.u8.wrap ((xx : Int) + (yy : Int)) = (dd : Int) := by rw [← HXX.out, ← HYY.out, ← HDD.out]; exact add_byte x y
      have hfz := HOWN.out.frozenAt k
      have hcg : wr.cell? ⟨w.heap.size, k, none⟩ = some (.int .u8 0) := by
        rw [HOWN.out.cellAt k (by omega), List.getElem?_map, List.getElem?_append_right (by rw [Fb.restTo_len]; omega), Fb.restTo_len, Nat.sub_self, show n - k = (n - k - 1) + 1 by omega, List.replicate_succ]; rfl
      have HRC : Hid (RdB wr (.slice (some ⟨w.heap.size, 0, none⟩) n n) cur) := by
        have h := HOWN.out
        rw [HCUR.out] at h
        have h2 : wr.ownsRow w.heap.size 5 1 (.slice (some ⟨w.heap.size, 0, none⟩) n n) cur.length (cur.map bv) := by rw [HCL.out]; exact h
        exact rdB_own h2
      have HAR : Hid (RdB wr (.slice a2 ab.length cap2) ab) := HA.out.on hb
      have HCALL : Hid (Calls Try.prog 42 #[.int .i64 (k : Int), .pointer (some ⟨W0.heap.size, 0, none⟩)] wr.drew fun e W' => e = .returned (.int .u8 (yy : Int)) ∧ ∃ q, W' = wr.drew.drewN q) := by
        have h := HGC.out wr.drew cur ab k (by omega) (by rw [HCL.out]; omega) HBR.out.drew HRC.out.drew HAR.out.drew
        rw [HY.out, HYY.out] at h
        exact h
      have HSET : Hid (∀ m, ((wr.drewN m).setCell ⟨w.heap.size, k, none⟩ (.int .u8 (dd : Int))).ownsRow w.heap.size 5 1 (.slice (some ⟨w.heap.size, 0, none⟩) n n) n ((Fb.restTo 1 t.data.toList ab (k + 1) ++ List.replicate (n - (k + 1)) 0).map bv)) := by
        unfold Hid
        intro m
        have h := ((owns_drewN HOWN.out m).stored k (.int .u8 (dd : Int))).1
        have e : (.int .u8 (dd : Int) : Value) = bv (x + y) := by unfold bv; rw [HDD.out]
        rw [e, set_row _ _ k n hlt (Fb.restTo_len _ _ _ _)] at h
        rw [e, Fb.restTo, HX.out, HGE.out]
        exact h
      have HBS : Hid (∀ m, Boxes ((wr.drewN m).setCell ⟨w.heap.size, k, none⟩ (.int .u8 (dd : Int))) W0.heap.size (.slice (some ⟨w.heap.size, 0, none⟩) n n) (.slice a2 ab.length cap2)) := fun m => (HBR.out.drewN m).store (by omega) (by omega) (by omega) (by omega)
      go_upto_region 6 with fail
      go_region_with (go_at_call 42; refine Calls.mono HCALL.out ?_; rintro e w3 ⟨rfl, q, rfl⟩)
      all_goals go_wp2_with fail
      all_goals (go_roundw; (case rel => exact ⟨k + 1, by omega, by go_num, (below_drewN hb _).setCell (Nat.le_refl _) _, HBS.out _, HSET.out _⟩); (case measure => simp [intOf]; omega))
    · have hkn : k = n := by omega
      have HOWN2 : Hid (wr.ownsRow w.heap.size 5 1 (.slice (some ⟨w.heap.size, 0, none⟩) n n) (Fb.restL 1 t.data.toList ab).length ((Fb.restL 1 t.data.toList ab).map bv)) := by
        unfold Hid
        have h := HOWN.out
        rw [hkn, Nat.sub_self] at h
        unfold Fb.restL
        rw [Fb.restTo_len, HN.out, HNN.out]
        simpa using h
      clear hkn
      go_wp2_with fail
      go_ret
      exact ⟨_, rfl, HOWN2.out, hb⟩

set_option maxHeartbeats 4000000 in
set_option maxRecDepth 100000 in
theorem restore2 (u : Value) (t : ByteArray) (ab : List UInt8) (w : World) (hlen : t.size ≤ 1000) (hpos : 0 < t.size) (HA : Hid (RdB w u ab)) :
    Calls Try.prog 31 #[.int .i64 2, .string t, u] w fun e w' => ∃ v, e = .returned v ∧ w'.ownsRow w.heap.size 5 1 v (Fb.restL 2 t.data.toList ab).length ((Fb.restL 2 t.data.toList ab).map bv) ∧ Below w.heap.size w w' := by
  obtain ⟨i0, hi, hz0, hz1, hz2⟩ := info_parts Try.infoByte
  obtain ⟨a2, cap2, hu, hl2, hc2, hh2⟩ := HA.out
  clear hl2 hh2
  have HN : Hid (t.data.toList.length = t.size) := by unfold Hid; simp
  obtain ⟨n, HNN⟩ : ∃ n, Hid (t.size = n) := ⟨_, (rfl : _ = _)⟩
  have hn1 : n ≤ t.size := by rw [HNN.out]; exact Nat.le_refl _
  have hn2 : t.size ≤ n := by rw [HNN.out]; exact Nat.le_refl _
  have htn : (t.size : Int) = (n : Int) := by rw [HNN.out]
  subst hu
  go_enter Try.func31, Try.ntmps31
  go_wp2_with (at_make; refine wpList_make_full _ rfl _ _ 54 rfl w.heap.size 5 i0 (.int .u8 0) 1 Try.underlying54 hi hz0 hz1 _ _ _ _ n rfl rfl ?a1 ?a2 ?b1 ?b2 ?b3 ?_)
  case a1 => first | rfl | omega
  case a2 => first | rfl | omega
  case b1 => rw [hz2]; omega
  case b2 => unfold maxLen; omega
  case b3 => exact Nat.le_refl _
  intro W0 hown0 hgrow0
  rw [made_zero] at hown0
  have hb0 : Below w.heap.size w W0 := (Below.refl _ _).grown hgrow0 (Nat.le_refl _) (by intro k hk; cases hk)
  have HO0 : Hid (W0.ownsRow w.heap.size 5 1 (.slice (some ⟨w.heap.size, 0, none⟩) n n) n ((List.replicate n (0 : UInt8)).map bv)) := hown0
  have hgl : w.heap.size < W0.heap.size := (hown0.lt w.heap.size rfl).2
  clear hgrow0 hown0
  have HGU : Hid (Calls Try.prog 40 #[.int .i64 2, .slice (some ⟨w.heap.size, 0, none⟩) n n, .slice a2 ab.length cap2] W0 fun e w' => e = .returned (.func (.func 43) #[] #[.pointer (some ⟨W0.heap.size + 1, 0, none⟩)]) ∧ Boxes w' W0.heap.size (.slice (some ⟨w.heap.size, 0, none⟩) n n) (.slice a2 ab.length cap2) ∧ Below W0.heap.size W0 w') := guesser_any 2 (by decide) _ _ W0 n n ab.length cap2 _ a2 rfl rfl
  have HGC : Hid (GuessC 2 43 #[.pointer (some ⟨W0.heap.size + 1, 0, none⟩)] W0.heap.size (.slice (some ⟨w.heap.size, 0, none⟩) n n) (.slice a2 ab.length cap2)) := guess2 _ _ _
  go_wp2_with fail
  refine Calls.mono HGU.out ?_
  rintro e w1 ⟨rfl, hbx, hb1⟩
  have HBX : Hid (Boxes w1 W0.heap.size (.slice (some ⟨w.heap.size, 0, none⟩) n n) (.slice a2 ab.length cap2)) := hbx
  have HO1 : Hid (w1.ownsRow w.heap.size 5 1 (.slice (some ⟨w.heap.size, 0, none⟩) n n) n ((List.replicate n (0 : UInt8)).map bv)) := own_on2 HO0.out hb1
  have HA1 : Hid (RdB w1 (.slice a2 ab.length cap2) ab) := (HA.out.on hb0).on hb1
  have hbw1 : Below w.heap.size w w1 := hb0.trans (hb1.mono hb0.size)
  clear hbx HGU
  go_wp2_with fail
  go_loopw [19] (fun i wr => ∃ k : Nat, k ≤ n ∧ i = .int .i64 k ∧ Below w.heap.size w wr ∧ Hid (Boxes wr W0.heap.size (.slice (some ⟨w.heap.size, 0, none⟩) n n) (.slice a2 ab.length cap2)) ∧ Hid (wr.ownsRow w.heap.size 5 1 (.slice (some ⟨w.heap.size, 0, none⟩) n n) n ((Fb.restTo 2 t.data.toList ab k ++ List.replicate (n - k) 0).map bv))) (fun i _ => n - (intOf i).toNat)
  case atStart => exact ⟨0, by omega, rfl, hbw1, HBX, HO1⟩
  case round =>
    obtain ⟨k, hk, rfl, hb, HBR, HOWN⟩ := hrel
    by_cases hlt : k < n
    · have hkt : k < t.size := by omega
      obtain ⟨x, HX⟩ : ∃ x, Hid (t.data.toList.getD k 0 = x) := ⟨_, (rfl : _ = _)⟩
      obtain ⟨xx, HXX⟩ : ∃ m, Hid (x.toNat = m) := ⟨_, (rfl : _ = _)⟩
      have hix := nat_at t k x HX xx HXX
      have hxb := byte_le x xx HXX
      obtain ⟨cur, HCUR⟩ : ∃ l : List UInt8, Hid (Fb.restTo 2 t.data.toList ab k ++ List.replicate (n - k) 0 = l) := ⟨Fb.restTo 2 t.data.toList ab k ++ List.replicate (n - k) 0, by unfold Hid; rfl⟩
      have HCL : Hid (cur.length = n) := by unfold Hid; rw [← HCUR.out, List.length_append, Fb.restTo_len, List.length_replicate]; omega
      obtain ⟨y, HY⟩ : ∃ x, Hid (Fb.guessB 2 cur ab k = x) := ⟨_, (rfl : _ = _)⟩
      obtain ⟨yy, HYY⟩ : ∃ m, Hid (y.toNat = m) := ⟨_, (rfl : _ = _)⟩
      have hyb := byte_le y yy HYY
      obtain ⟨dd, HDD⟩ : ∃ m, Hid ((x + y).toNat = m) := ⟨_, (rfl : _ = _)⟩
      have HGE : Hid (Fb.guessB 2 (Fb.restTo 2 t.data.toList ab k) ab k = y) := by
        unfold Hid; rw [← HY.out, ← HCUR.out]
        exact Fb.guess_ahead 2 _ _ ab k (fun j hj => (Fb.getD_app _ _ _ (by rw [Fb.restTo_len]; exact hj)).symm)
      have hadd : IntKind.u8.wrap ((xx : Int) + (yy : Int)) = (dd : Int) := by rw [← HXX.out, ← HYY.out, ← HDD.out]; exact add_byte x y
      have hfz := HOWN.out.frozenAt k
      have hcg : wr.cell? ⟨w.heap.size, k, none⟩ = some (.int .u8 0) := by
        rw [HOWN.out.cellAt k (by omega), List.getElem?_map, List.getElem?_append_right (by rw [Fb.restTo_len]; omega), Fb.restTo_len, Nat.sub_self, show n - k = (n - k - 1) + 1 by omega, List.replicate_succ]; rfl
      have HRC : Hid (RdB wr (.slice (some ⟨w.heap.size, 0, none⟩) n n) cur) := by
        have h := HOWN.out
        rw [HCUR.out] at h
        have h2 : wr.ownsRow w.heap.size 5 1 (.slice (some ⟨w.heap.size, 0, none⟩) n n) cur.length (cur.map bv) := by rw [HCL.out]; exact h
        exact rdB_own h2
      have HAR : Hid (RdB wr (.slice a2 ab.length cap2) ab) := HA.out.on hb
      have HCALL : Hid (Calls Try.prog 43 #[.int .i64 (k : Int), .pointer (some ⟨W0.heap.size + 1, 0, none⟩)] wr.drew fun e W' => e = .returned (.int .u8 (yy : Int)) ∧ ∃ q, W' = wr.drew.drewN q) := by
        have h := HGC.out wr.drew cur ab k (by omega) (by rw [HCL.out]; omega) HBR.out.drew HRC.out.drew HAR.out.drew
        rw [HY.out, HYY.out] at h
        exact h
      have HSET : Hid (∀ m, ((wr.drewN m).setCell ⟨w.heap.size, k, none⟩ (.int .u8 (dd : Int))).ownsRow w.heap.size 5 1 (.slice (some ⟨w.heap.size, 0, none⟩) n n) n ((Fb.restTo 2 t.data.toList ab (k + 1) ++ List.replicate (n - (k + 1)) 0).map bv)) := by
        unfold Hid
        intro m
        have h := ((owns_drewN HOWN.out m).stored k (.int .u8 (dd : Int))).1
        have e : (.int .u8 (dd : Int) : Value) = bv (x + y) := by unfold bv; rw [HDD.out]
        rw [e, set_row _ _ k n hlt (Fb.restTo_len _ _ _ _)] at h
        rw [e, Fb.restTo, HX.out, HGE.out]
        exact h
      have HBS : Hid (∀ m, Boxes ((wr.drewN m).setCell ⟨w.heap.size, k, none⟩ (.int .u8 (dd : Int))) W0.heap.size (.slice (some ⟨w.heap.size, 0, none⟩) n n) (.slice a2 ab.length cap2)) := fun m => (HBR.out.drewN m).store (by omega) (by omega) (by omega) (by omega)
      go_upto_region 6 with fail
      go_region_with (go_at_call 43; refine Calls.mono HCALL.out ?_; rintro e w3 ⟨rfl, q, rfl⟩)
      all_goals go_wp2_with fail
      all_goals (go_roundw; (case rel => exact ⟨k + 1, by omega, by go_num, (below_drewN hb _).setCell (Nat.le_refl _) _, HBS.out _, HSET.out _⟩); (case measure => simp [intOf]; omega))
    · have hkn : k = n := by omega
      have HOWN2 : Hid (wr.ownsRow w.heap.size 5 1 (.slice (some ⟨w.heap.size, 0, none⟩) n n) (Fb.restL 2 t.data.toList ab).length ((Fb.restL 2 t.data.toList ab).map bv)) := by
        unfold Hid
        have h := HOWN.out
        rw [hkn, Nat.sub_self] at h
        unfold Fb.restL
        rw [Fb.restTo_len, HN.out, HNN.out]
        simpa using h
      clear hkn
      go_wp2_with fail
      go_ret
      exact ⟨_, rfl, HOWN2.out, hb⟩

set_option maxHeartbeats 4000000 in
set_option maxRecDepth 100000 in
theorem restore3 (u : Value) (t : ByteArray) (ab : List UInt8) (w : World) (hlen : t.size ≤ 1000) (hpos : 0 < t.size) (HA : Hid (RdB w u ab)) :
    Calls Try.prog 31 #[.int .i64 3, .string t, u] w fun e w' => ∃ v, e = .returned v ∧ w'.ownsRow w.heap.size 5 1 v (Fb.restL 3 t.data.toList ab).length ((Fb.restL 3 t.data.toList ab).map bv) ∧ Below w.heap.size w w' := by
  obtain ⟨i0, hi, hz0, hz1, hz2⟩ := info_parts Try.infoByte
  obtain ⟨a2, cap2, hu, hl2, hc2, hh2⟩ := HA.out
  clear hl2 hh2
  have HN : Hid (t.data.toList.length = t.size) := by unfold Hid; simp
  obtain ⟨n, HNN⟩ : ∃ n, Hid (t.size = n) := ⟨_, (rfl : _ = _)⟩
  have hn1 : n ≤ t.size := by rw [HNN.out]; exact Nat.le_refl _
  have hn2 : t.size ≤ n := by rw [HNN.out]; exact Nat.le_refl _
  have htn : (t.size : Int) = (n : Int) := by rw [HNN.out]
  subst hu
  go_enter Try.func31, Try.ntmps31
  go_wp2_with (at_make; refine wpList_make_full _ rfl _ _ 54 rfl w.heap.size 5 i0 (.int .u8 0) 1 Try.underlying54 hi hz0 hz1 _ _ _ _ n rfl rfl ?a1 ?a2 ?b1 ?b2 ?b3 ?_)
  case a1 => first | rfl | omega
  case a2 => first | rfl | omega
  case b1 => rw [hz2]; omega
  case b2 => unfold maxLen; omega
  case b3 => exact Nat.le_refl _
  intro W0 hown0 hgrow0
  rw [made_zero] at hown0
  have hb0 : Below w.heap.size w W0 := (Below.refl _ _).grown hgrow0 (Nat.le_refl _) (by intro k hk; cases hk)
  have HO0 : Hid (W0.ownsRow w.heap.size 5 1 (.slice (some ⟨w.heap.size, 0, none⟩) n n) n ((List.replicate n (0 : UInt8)).map bv)) := hown0
  have hgl : w.heap.size < W0.heap.size := (hown0.lt w.heap.size rfl).2
  clear hgrow0 hown0
  have HGU : Hid (Calls Try.prog 40 #[.int .i64 3, .slice (some ⟨w.heap.size, 0, none⟩) n n, .slice a2 ab.length cap2] W0 fun e w' => e = .returned (.func (.func 44) #[] #[.pointer (some ⟨W0.heap.size + 2, 0, none⟩), .pointer (some ⟨W0.heap.size + 3, 0, none⟩)]) ∧ Boxes w' W0.heap.size (.slice (some ⟨w.heap.size, 0, none⟩) n n) (.slice a2 ab.length cap2) ∧ Below W0.heap.size W0 w') := guesser_any 3 (by decide) _ _ W0 n n ab.length cap2 _ a2 rfl rfl
  have HGC : Hid (GuessC 3 44 #[.pointer (some ⟨W0.heap.size + 2, 0, none⟩), .pointer (some ⟨W0.heap.size + 3, 0, none⟩)] W0.heap.size (.slice (some ⟨w.heap.size, 0, none⟩) n n) (.slice a2 ab.length cap2)) := guess3 _ _ _
  go_wp2_with fail
  refine Calls.mono HGU.out ?_
  rintro e w1 ⟨rfl, hbx, hb1⟩
  have HBX : Hid (Boxes w1 W0.heap.size (.slice (some ⟨w.heap.size, 0, none⟩) n n) (.slice a2 ab.length cap2)) := hbx
  have HO1 : Hid (w1.ownsRow w.heap.size 5 1 (.slice (some ⟨w.heap.size, 0, none⟩) n n) n ((List.replicate n (0 : UInt8)).map bv)) := own_on2 HO0.out hb1
  have HA1 : Hid (RdB w1 (.slice a2 ab.length cap2) ab) := (HA.out.on hb0).on hb1
  have hbw1 : Below w.heap.size w w1 := hb0.trans (hb1.mono hb0.size)
  clear hbx HGU
  go_wp2_with fail
  go_loopw [19] (fun i wr => ∃ k : Nat, k ≤ n ∧ i = .int .i64 k ∧ Below w.heap.size w wr ∧ Hid (Boxes wr W0.heap.size (.slice (some ⟨w.heap.size, 0, none⟩) n n) (.slice a2 ab.length cap2)) ∧ Hid (wr.ownsRow w.heap.size 5 1 (.slice (some ⟨w.heap.size, 0, none⟩) n n) n ((Fb.restTo 3 t.data.toList ab k ++ List.replicate (n - k) 0).map bv))) (fun i _ => n - (intOf i).toNat)
  case atStart => exact ⟨0, by omega, rfl, hbw1, HBX, HO1⟩
  case round =>
    obtain ⟨k, hk, rfl, hb, HBR, HOWN⟩ := hrel
    by_cases hlt : k < n
    · have hkt : k < t.size := by omega
      obtain ⟨x, HX⟩ : ∃ x, Hid (t.data.toList.getD k 0 = x) := ⟨_, (rfl : _ = _)⟩
      obtain ⟨xx, HXX⟩ : ∃ m, Hid (x.toNat = m) := ⟨_, (rfl : _ = _)⟩
      have hix := nat_at t k x HX xx HXX
      have hxb := byte_le x xx HXX
      obtain ⟨cur, HCUR⟩ : ∃ l : List UInt8, Hid (Fb.restTo 3 t.data.toList ab k ++ List.replicate (n - k) 0 = l) := ⟨Fb.restTo 3 t.data.toList ab k ++ List.replicate (n - k) 0, by unfold Hid; rfl⟩
      have HCL : Hid (cur.length = n) := by unfold Hid; rw [← HCUR.out, List.length_append, Fb.restTo_len, List.length_replicate]; omega
      obtain ⟨y, HY⟩ : ∃ x, Hid (Fb.guessB 3 cur ab k = x) := ⟨_, (rfl : _ = _)⟩
      obtain ⟨yy, HYY⟩ : ∃ m, Hid (y.toNat = m) := ⟨_, (rfl : _ = _)⟩
      have hyb := byte_le y yy HYY
      obtain ⟨dd, HDD⟩ : ∃ m, Hid ((x + y).toNat = m) := ⟨_, (rfl : _ = _)⟩
      have HGE : Hid (Fb.guessB 3 (Fb.restTo 3 t.data.toList ab k) ab k = y) := by
        unfold Hid; rw [← HY.out, ← HCUR.out]
        exact Fb.guess_ahead 3 _ _ ab k (fun j hj => (Fb.getD_app _ _ _ (by rw [Fb.restTo_len]; exact hj)).symm)
      have hadd : IntKind.u8.wrap ((xx : Int) + (yy : Int)) = (dd : Int) := by rw [← HXX.out, ← HYY.out, ← HDD.out]; exact add_byte x y
      have hfz := HOWN.out.frozenAt k
      have hcg : wr.cell? ⟨w.heap.size, k, none⟩ = some (.int .u8 0) := by
        rw [HOWN.out.cellAt k (by omega), List.getElem?_map, List.getElem?_append_right (by rw [Fb.restTo_len]; omega), Fb.restTo_len, Nat.sub_self, show n - k = (n - k - 1) + 1 by omega, List.replicate_succ]; rfl
      have HRC : Hid (RdB wr (.slice (some ⟨w.heap.size, 0, none⟩) n n) cur) := by
        have h := HOWN.out
        rw [HCUR.out] at h
        have h2 : wr.ownsRow w.heap.size 5 1 (.slice (some ⟨w.heap.size, 0, none⟩) n n) cur.length (cur.map bv) := by rw [HCL.out]; exact h
        exact rdB_own h2
      have HAR : Hid (RdB wr (.slice a2 ab.length cap2) ab) := HA.out.on hb
      have HCALL : Hid (Calls Try.prog 44 #[.int .i64 (k : Int), .pointer (some ⟨W0.heap.size + 2, 0, none⟩), .pointer (some ⟨W0.heap.size + 3, 0, none⟩)] wr.drew fun e W' => e = .returned (.int .u8 (yy : Int)) ∧ ∃ q, W' = wr.drew.drewN q) := by
        have h := HGC.out wr.drew cur ab k (by omega) (by rw [HCL.out]; omega) HBR.out.drew HRC.out.drew HAR.out.drew
        rw [HY.out, HYY.out] at h
        exact h
      have HSET : Hid (∀ m, ((wr.drewN m).setCell ⟨w.heap.size, k, none⟩ (.int .u8 (dd : Int))).ownsRow w.heap.size 5 1 (.slice (some ⟨w.heap.size, 0, none⟩) n n) n ((Fb.restTo 3 t.data.toList ab (k + 1) ++ List.replicate (n - (k + 1)) 0).map bv)) := by
        unfold Hid
        intro m
        have h := ((owns_drewN HOWN.out m).stored k (.int .u8 (dd : Int))).1
        have e : (.int .u8 (dd : Int) : Value) = bv (x + y) := by unfold bv; rw [HDD.out]
        rw [e, set_row _ _ k n hlt (Fb.restTo_len _ _ _ _)] at h
        rw [e, Fb.restTo, HX.out, HGE.out]
        exact h
      have HBS : Hid (∀ m, Boxes ((wr.drewN m).setCell ⟨w.heap.size, k, none⟩ (.int .u8 (dd : Int))) W0.heap.size (.slice (some ⟨w.heap.size, 0, none⟩) n n) (.slice a2 ab.length cap2)) := fun m => (HBR.out.drewN m).store (by omega) (by omega) (by omega) (by omega)
      go_upto_region 6 with fail
      go_region_with (go_at_call 44; refine Calls.mono HCALL.out ?_; rintro e w3 ⟨rfl, q, rfl⟩)
      all_goals go_wp2_with fail
      all_goals (go_roundw; (case rel => exact ⟨k + 1, by omega, by go_num, (below_drewN hb _).setCell (Nat.le_refl _) _, HBS.out _, HSET.out _⟩); (case measure => simp [intOf]; omega))
    · have hkn : k = n := by omega
      have HOWN2 : Hid (wr.ownsRow w.heap.size 5 1 (.slice (some ⟨w.heap.size, 0, none⟩) n n) (Fb.restL 3 t.data.toList ab).length ((Fb.restL 3 t.data.toList ab).map bv)) := by
        unfold Hid
        have h := HOWN.out
        rw [hkn, Nat.sub_self] at h
        unfold Fb.restL
        rw [Fb.restTo_len, HN.out, HNN.out]
        simpa using h
      clear hkn
      go_wp2_with fail
      go_ret
      exact ⟨_, rfl, HOWN2.out, hb⟩

theorem restore_any (way : Nat) (hway : way < 4) (u : Value) (t : ByteArray) (ab : List UInt8) (w : World) (hlen : t.size ≤ 1000) (hpos : 0 < t.size) (HA : RdB w u ab) :
    Calls Try.prog 31 #[.int .i64 (way : Int), .string t, u] w fun e w' => ∃ v, e = .returned v ∧ w'.ownsRow w.heap.size 5 1 v (Fb.restL way t.data.toList ab).length ((Fb.restL way t.data.toList ab).map bv) ∧ Below w.heap.size w w' := by
  have h4 : way = 0 ∨ way = 1 ∨ way = 2 ∨ way = 3 := by omega
  rcases h4 with rfl | rfl | rfl | rfl
  · exact restore0 u t ab w hlen hpos HA
  · exact restore1 u t ab w hlen hpos HA
  · exact restore2 u t ab w hlen hpos HA
  · exact restore3 u t ab w hlen hpos HA
end Go.Proofs.Ytjoggjjkafamlaa
