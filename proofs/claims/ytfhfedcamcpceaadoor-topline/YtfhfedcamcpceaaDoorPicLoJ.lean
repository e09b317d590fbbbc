/- (as PicL, the pixels the call's own) Walk of picture.Parse, from its head on. -/
import Derived.Test.YtfhfedcamcpceaaDoorM4
-- s1
namespace Go.Proofs.YtfhfedcamcpceaaDoor
open Go.RowKit

set_option maxHeartbeats 4000000 in
set_option maxRecDepth 100000 in
theorem parseO_any (s : ByteArray) (w : World) (hs : s.size ≤ 1000000) (W' H' c : Nat) (ps : List (Int × Int)) (HC : Hid (parseL s.data.toList = (W', H', ps, c))) :
    Calls Tryd.prog 32 #[.string s] w fun e w' => ∃ v, e = .returned (.tuple #[.agg #[.int .i64 (W' : Int), .int .i64 (H' : Int), v], errV c]) ∧ w'.ownsRow w.heap.size 88 2 v ps.length (pixCells ps) ∧ Below w.heap.size w w' := by
  have HL : Hid (s.data.toList.length = s.size) := by unfold Hid; simp
  have HT0 := three_start w (.int .i64 0) (.int .i64 0) (.slice none 0 0) 24
  by_cases h2 : s.size < 2
  · have hc := HC.out
    rw [parse_short _ (by rw [HL.out]; exact h2)] at hc
    simp only [Prod.mk.injEq] at hc
    obtain ⟨rfl, rfl, rfl, rfl⟩ := hc
    go_enter Tryd.func32, Tryd.ntmps32
    go_wp2_with fail
    exact bodyPost_ret (v := .tuple #[.agg #[.int .i64 0, .int .i64 0, .slice none 0 0], .iface 69 (.int .i64 4)]) (by simp [results, Tryd.results32, go_sem]) rfl ⟨_, rfl, World.ownsRow_nil _ _ _ _, (Below.refl _ _).alloc (Nat.le_refl _) _⟩
  · obtain ⟨x0, HX0⟩ : ∃ c, Hid (s.data.toList.getD 0 0 = c) := ⟨_, (rfl : _ = _)⟩
    obtain ⟨x1, HX1⟩ : ∃ c, Hid (s.data.toList.getD 1 0 = c) := ⟨_, (rfl : _ = _)⟩
    obtain ⟨W, HW⟩ : ∃ m, Hid (x0.toNat = m) := ⟨_, (rfl : _ = _)⟩
    obtain ⟨H, HH⟩ : ∃ m, Hid (x1.toNat = m) := ⟨_, (rfl : _ = _)⟩
    have hix0 := nat_at s 0 x0 HX0 W HW
    have hix1 := nat_at s 1 x1 HX1 H HH
    have hWb := byte_le x0 W HW
    have hHb := byte_le x1 H HH
    have h2' : 1 < s.size := by omega
    have h2'' : 0 < s.size := by omega
    have HWE : Hid ((s.data.toList.getD 0 0).toNat = W) := by unfold Hid; rw [HX0.out, HW.out]
    have HHE : Hid ((s.data.toList.getD 1 0).toNat = H) := by unfold Hid; rw [HX1.out, HH.out]
    have HL2 : Hid (¬ s.data.toList.length < 2) := by unfold Hid; rw [HL.out]; exact h2
    go_enter Tryd.func32, Tryd.ntmps32
    go_upto_region 3 with fail
    go_cut [4, 5] from 15 (fun s4 s5 wc => s4 = .int .i64 (W : Int) ∧ s5 = .int .i64 (H : Int) ∧ Three wc w.heap.size (.int .i64 0) (.int .i64 0) (.slice none 0 0) ∧ Below w.heap.size w wc)
    case first =>
      go_quiet (fail)
      go_wp2_with fail
      go_meet
      exact ⟨rfl, rfl, HT0.drewN _, below_drewN ((Below.refl _ _).alloc (Nat.le_refl _) _) _⟩
    case rest =>
      clear HT0 hix0 hix1
      obtain ⟨rfl, rfl, HT, hb⟩ := hcut
      cases hsw : sideB (W : Int) with
      | false =>
        have HSW : Hid (sideB (W : Int) = false) := hsw
        have hc := HC.out
        rw [parse_side _ W H HL2.out HWE.out HHE.out (.inl hsw)] at hc
        simp only [Prod.mk.injEq] at hc
        obtain ⟨rfl, rfl, rfl, rfl⟩ := hc
        clear hsw
        obtain ⟨t0, t1, t2, f0, f1, f2, tl⟩ := HT
        go_wp2_with fail
        refine (side_any _ _ false HSW).mono ?_
        rintro e w3 ⟨rfl, rfl⟩
        go_wp2_with fail
        exact bodyPost_ret (v := .tuple #[.agg #[.int .i64 0, .int .i64 0, .slice none 0 0], .iface 69 (.int .i64 1)]) (by simp [results, Tryd.results32, go_sem, t0, t1, t2]) rfl ⟨_, rfl, World.ownsRow_nil _ _ _ _, ((hb.setCell (Nat.le_refl _) _).setCell (Nat.le_refl _) _).setCell (Nat.le_refl _) _⟩
      | true =>
        have HSW : Hid (sideB (W : Int) = true) := hsw
        cases hsh : sideB (H : Int) with
        | false =>
          have HSH : Hid (sideB (H : Int) = false) := hsh
          have hc := HC.out
          rw [parse_side _ W H HL2.out HWE.out HHE.out (.inr hsh)] at hc
          simp only [Prod.mk.injEq] at hc
          obtain ⟨rfl, rfl, rfl, rfl⟩ := hc
          clear hsw hsh
          obtain ⟨t0, t1, t2, f0, f1, f2, tl⟩ := HT
          go_wp2_with fail
          refine (side_any _ _ true HSW).mono ?_
          rintro e w3 ⟨rfl, rfl⟩
          go_wp2_with fail
          refine (side_any _ _ false HSH).mono ?_
          rintro e w3 ⟨rfl, rfl⟩
          go_wp2_with fail
          exact bodyPost_ret (v := .tuple #[.agg #[.int .i64 0, .int .i64 0, .slice none 0 0], .iface 69 (.int .i64 1)]) (by simp [results, Tryd.results32, go_sem, t0, t1, t2]) rfl ⟨_, rfl, World.ownsRow_nil _ _ _ _, ((hb.setCell (Nat.le_refl _) _).setCell (Nat.le_refl _) _).setCell (Nat.le_refl _) _⟩
        | true =>
          have HSH : Hid (sideB (H : Int) = true) := hsh
          have hW1 : 1 ≤ (W : Int) ∧ (W : Int) ≤ 8 := by unfold sideB at hsw; simpa using hsw
          have hH1 : 1 ≤ (H : Int) ∧ (H : Int) ≤ 8 := by unfold sideB at hsh; simpa using hsh
          obtain ⟨hW1, hW8⟩ := hW1
          obtain ⟨hH1, hH8⟩ := hH1
          have HNS : Hid (¬ (sideB (W : Int) = false ∨ sideB (H : Int) = false)) := by unfold Hid; rw [hsw, hsh]; simp
          clear hsw hsh
          obtain ⟨L, HLN⟩ : ∃ L, Hid (1 + 2 * W = L) := ⟨_, (rfl : _ = _)⟩
          have hL1 : L ≤ 17 := by rw [← HLN.out]; omega
          have hL2 : 3 ≤ L := by rw [← HLN.out]; omega
          have hLI : 1 + 2 * (W : Int) = (L : Int) := by rw [← HLN.out]; simp
          obtain ⟨M, HM⟩ : ∃ M, Hid (H * L = M) := ⟨_, (rfl : _ = _)⟩
          have hM : M ≤ 136 := by rw [← HM.out]; have := Nat.mul_le_mul (show H ≤ 8 by omega) hL1; omega
          have hMI : (H : Int) * (L : Int) = (M : Int) := by rw [← HM.out]; simp
          obtain ⟨z, HZ⟩ : ∃ z, Hid (Fb.unpack (s.extract 2 s.size).data.toList (M : Int) = z) := ⟨_, (rfl : _ = _)⟩
          obtain ⟨us, uc⟩ := z
          have HU : Hid (Fb.unpack (s.data.toList.drop 2) ((H * (1 + 2 * W) : Nat) : Int) = (us, uc)) := by unfold Hid; rw [← ext_drop2, HLN.out, HM.out]; exact HZ.out
          have HB : Hid (parseL s.data.toList = if uc ≠ 0 then (0, 0, [], uc) else if us.length < M then (0, 0, [], 4) else if (parseRows us W H 0 []).2 ≠ 0 then (0, 0, [], (parseRows us W H 0 []).2) else (W, H, (parseRows us W H 0 []).1, 0)) := by
            unfold Hid; rw [parse_body _ W H HL2.out HWE.out HHE.out HNS.out us uc HU.out, HLN.out, HM.out]
          have hse : (s.extract 2 s.size).size ≤ 1000000 := by rw [ByteArray.size_extract]; omega
          obtain ⟨x, HX⟩ : ∃ t : ByteArray, Hid (us = t.data.toList) := ⟨⟨us.toArray⟩, by unfold Hid; simp⟩
          have HXS : Hid (x.size = us.length) := by unfold Hid; rw [HX.out]; simp
          go_wp2_with fail
          refine (side_any _ _ true HSW).mono ?_
          rintro e w3 ⟨rfl, rfl⟩
          go_wp2_with fail
          refine (side_any _ _ true HSH).mono ?_
          rintro e w3 ⟨rfl, rfl⟩
          by_cases huc : uc = 0
          · subst huc
            by_cases hshort : x.size < M
            · have hc := HC.out
              rw [HB.out, if_neg (by simp), if_pos (by rw [← HXS.out]; exact hshort)] at hc
              simp only [Prod.mk.injEq] at hc
              obtain ⟨rfl, rfl, rfl, rfl⟩ := hc
              go_wp2_with fail
              refine (unpack_at2 _ _ _ hse (by omega) (by omega) x _ us 0 HZ HX rfl).mono ?_
              rintro e w5 ⟨rfl, hb5⟩
              rw [show errV 0 = .nilIface from rfl]
              obtain ⟨t0, t1, t2, f0, f1, f2, tl⟩ := HT.on hb5
              go_wp2_with fail
              exact bodyPost_ret (v := .tuple #[.agg #[.int .i64 0, .int .i64 0, .slice none 0 0], .iface 69 (.int .i64 4)]) (by simp [results, Tryd.results32, go_sem, t0, t1, t2]) rfl ⟨_, rfl, World.ownsRow_nil _ _ _ _, (((hb.trans (hb5.mono hb.size)).setCell (Nat.le_refl _) _).setCell (Nat.le_refl _) _).setCell (Nat.le_refl _) _⟩
            · have HP : Hid ((W', H', ps, c) = if (parseRows us W H 0 []).2 ≠ 0 then (0, 0, [], (parseRows us W H 0 []).2) else (W, H, (parseRows us W H 0 []).1, 0)) := by
                unfold Hid; rw [← HC.out, HB.out, if_neg (by simp), if_neg (by rw [← HXS.out]; exact hshort)]
              go_wp2_with fail
              refine (unpack_at2 _ _ _ hse (by omega) (by omega) x _ us 0 HZ HX rfl).mono ?_
              rintro e w5 ⟨rfl, hb5⟩
              rw [show errV 0 = .nilIface from rfl]
              have HT5 := HT.on hb5
              have hbw5 : Below w.heap.size w w5 := hb.trans (hb5.mono hb.size)
              have HPB := three_start w5 (.int .i64 (W : Int)) (.int .i64 (H : Int)) (.slice none 0 0) 24
              have HRB := HT5.alloc (.cells #[.int .i64 (W : Int), .int .i64 (H : Int), .slice none 0 0] 24)
              obtain ⟨wp, HWP⟩ : ∃ wp, Hid (w5.alloc (.cells #[.int .i64 (W : Int), .int .i64 (H : Int), .slice none 0 0] 24) = wp) := ⟨_, (rfl : _ = _)⟩
              rw [HWP.out] at HPB HRB
              have hbwp : Below w.heap.size w wp := by rw [← HWP.out]; exact hbw5.alloc hbw5.size _
              have HPB' : Hid (Three wp w5.heap.size (.int .i64 (W : Int)) (.int .i64 (H : Int)) (.slice none 0 0)) := HPB
              have HRB' : Hid (Three wp w.heap.size (.int .i64 0) (.int .i64 0) (.slice none 0 0)) := HRB
              have hltp : w5.heap.size < wp.heap.size := HPB.lt
              have hltw : w.heap.size < w5.heap.size := HT5.lt
              clear HPB HRB HT5 HT
              go_wp2_with fail
              rw [HWP.out]
              go_loopw [10, 64] (fun u i wr => ∃ (k : Nat) (qs : List (Int × Int)) (ab : List UInt8) (xv : Value), k ≤ H ∧ i = .int .i64 k ∧ Hid (RdB wr u ab) ∧ Hid (Three wr w5.heap.size (.int .i64 (W : Int)) (.int .i64 (H : Int)) xv) ∧ Hid (wr.ownsRow wp.heap.size 88 2 xv qs.length (pixCells qs)) ∧ Hid (Three wr w.heap.size (.int .i64 0) (.int .i64 0) (.slice none 0 0)) ∧ Below w.heap.size w wr ∧ wp.heap.size ≤ wr.heap.size ∧ qs.length ≤ k * 8 ∧ Hid (parseRows us W H 0 [] = combP qs (parseRows us W (H - k) k ab))) (fun _ i _ => H - (intOf i).toNat)
              case atStart => exact ⟨0, [], [], .slice none 0 0, by omega, rfl, rdB_nil _, HPB', World.ownsRow_nil _ _ _ _, HRB', hbwp, Nat.le_refl _, by simp, (rows_nil _ _ _ _ _).symm⟩
              case round =>
                obtain ⟨k, qs, ab, xv, hk, rfl, HAB, H3P, HOQ, H3R, hbr, hwpr, hql, HK⟩ := hrel
                by_cases hlt : k < H
                · obtain ⟨lo, HLO⟩ : ∃ lo, Hid (k * L = lo) := ⟨_, (rfl : _ = _)⟩
                  obtain ⟨hi2, HHI⟩ : ∃ hi, Hid ((k + 1) * L = hi) := ⟨_, (rfl : _ = _)⟩
                  have hlohi : hi2 = lo + L := by rw [← HLO.out, ← HHI.out, Nat.add_mul, Nat.one_mul]
                  have hhin : hi2 ≤ M := by rw [← HHI.out, ← HM.out]; exact Nat.mul_le_mul_right L (by omega)
                  have hm1 : (k : Int) * (L : Int) = (lo : Int) := by rw [← HLO.out]; simp
                  have hm2 : ((k : Int) + 1) * (L : Int) = (hi2 : Int) := by rw [← HHI.out]; simp
                  have HHW : Hid (hi2 = lo + L) := hlohi
                  have hlt2 : lo + 1 < hi2 := by omega
                  have hlox : lo < x.size := by omega
                  have hhix : hi2 ≤ x.size := by omega
                  clear hlohi
                  obtain ⟨wb, HWB⟩ : ∃ c, Hid (x.data.toList.getD lo 0 = c) := ⟨_, (rfl : _ = _)⟩
                  obtain ⟨way, HWAY⟩ : ∃ m, Hid (wb.toNat = m) := ⟨_, (rfl : _ = _)⟩
                  have hixw := nat_at x lo wb HWB way HWAY
                  have hwyb := byte_le wb way HWAY
                  have HWE2 : Hid ((us.getD (k * (1 + 2 * W)) 0).toNat = way) := by unfold Hid; rw [HLN.out, HLO.out, HX.out, HWB.out, HWAY.out]
                  have hHk : H - k = (H - (k + 1)) + 1 := by omega
                  have HHK : Hid (H - k = (H - (k + 1)) + 1) := hHk
                  clear hHk
                  by_cases hw4 : 4 ≤ way
                  · have HPE : Hid (parseRows us W H 0 [] = ([], 4)) := by
                      unfold Hid; rw [HK.out, HHK.out, rows_err _ _ _ _ _ (by rw [HWE2.out]; exact hw4)]; rfl
                    have hc := HP.out
                    rw [HPE.out] at hc
                    simp at hc
                    obtain ⟨rfl, rfl, rfl, rfl⟩ := hc
                    obtain ⟨t0, t1, t2, f0, f1, f2, tl⟩ := H3R.out
                    go_wp2_with fail
                    go_quiet (fail)
                    go_wp2_with fail
                    exact bodyPost_ret (v := .tuple #[.agg #[.int .i64 0, .int .i64 0, .slice none 0 0], .iface 69 (.int .i64 4)]) (by simp [results, Tryd.results32, go_sem, t0, t1, t2]) rfl ⟨_, rfl, World.ownsRow_nil _ _ _ _, (((below_drewN hbr _).setCell (Nat.le_refl _) _).setCell (Nat.le_refl _) _).setCell (Nat.le_refl _) _⟩
                  · obtain ⟨t, HT2⟩ : ∃ t, Hid (x.extract (lo + 1) hi2 = t) := ⟨_, (rfl : _ = _)⟩
                    have HTS : Hid (t.size = 2 * W) := by unfold Hid; rw [← HT2.out, ByteArray.size_extract]; have h1 := HHW.out; have h2 := HLN.out; omega
                    have HTD : Hid (t.data.toList = (us.drop (k * (1 + 2 * W) + 1)).take (2 * W)) := by
                      unfold Hid
                      rw [← HT2.out, ByteArray.data_extract, Array.toList_extract, List.extract_eq_take_drop, ← HX.out, HLN.out, HLO.out]
                      rw [show hi2 - (lo + 1) = 2 * W by have h1 := HHW.out; have h2 := HLN.out; omega]
                    obtain ⟨row, HROW⟩ : ∃ row, Hid (Fb.restL way t.data.toList ab = row) := ⟨_, (rfl : _ = _)⟩
                    have HRLN : Hid (row.length = 2 * W) := by unfold Hid; rw [← HROW.out]; unfold Fb.restL; rw [Fb.restTo_len, ← HTS.out]; simp
                    have HN2 : Hid (parseRows us W H 0 [] = combP (qs ++ pixOf row) (parseRows us W (H - (k + 1)) (k + 1) row)) := by
                      unfold Hid
                      rw [HK.out, HHK.out, rows_step _ _ _ _ _ (by rw [HWE2.out]; exact hw4), combP_combP, HWE2.out, ← HTD.out, HROW.out]
                    go_wp2_with fail
                    go_quiet (fail)
                    go_wp2_with fail
                    rw [HT2.out]
                    obtain ⟨wq, HWQ⟩ : ∃ wq, Hid (wr.drewN nq = wq) := ⟨_, (rfl : _ = _)⟩
                    have hbq : Below wr.heap.size wr wq := by rw [← HWQ.out]; exact below_drewN (Below.refl _ _) _
                    have hbwq : Below w.heap.size w wq := by rw [← HWQ.out]; exact below_drewN hbr _
                    rw [HWQ.out]
                    have HPQ := H3P.out.on hbq
                    have HRQ := H3R.out.on hbq
                    have HOQ2 := own_on2 HOQ.out hbq
                    refine (restore_any way (by omega) _ t ab wq (by rw [HTS.out]; omega) (by rw [HTS.out]; omega) (HAB.out.on hbq)).mono ?_
                    rintro e w6 ⟨vrow, rfl, hrow, hb6⟩
                    rw [HROW.out] at hrow
                    have hq0 : wp.heap.size ≤ wq.heap.size := Nat.le_trans hwpr hbq.size
                    have HVR : Hid (w6.ownsRow wp.heap.size 5 1 vrow row.length (row.map bv)) := own_mono hrow hq0
                    have HO6 : Hid (w6.ownsRow wp.heap.size 88 2 xv qs.length (pixCells qs)) := own_on2 HOQ2 hb6
                    have HP6 : Hid (Three w6 w5.heap.size (.int .i64 (W : Int)) (.int .i64 (H : Int)) xv) := HPQ.on hb6
                    have HR6 : Hid (Three w6 w.heap.size (.int .i64 0) (.int .i64 0) (.slice none 0 0)) := HRQ.on hb6
                    have hw6 : wp.heap.size ≤ w6.heap.size := Nat.le_trans hq0 hb6.size
                    have hbw6 : Below w.heap.size w w6 := hbwq.trans (hb6.mono hbwq.size)
                    clear hrow hb6 HPQ HRQ HOQ2 hbwq hbq H3P H3R HOQ HAB
                    have hc2 := HP6.out.c2
                    go_wp2_with fail
                    refine (appendPixels_any wp.heap.size W xv vrow qs row w6 hw6 HO6 HVR HRLN (by omega) (by omega) (by omega)).mono ?_
                    rintro e w7 ⟨v', rfl, hown7, hrow7, hb7⟩
                    obtain ⟨n7, HN7⟩ : ∃ n, Hid ((qs ++ pixOf row).length = n) := ⟨_, (rfl : _ = _)⟩
                    obtain ⟨av7, cv7, hv7⟩ := own_any hown7
                    rw [HN7.out] at hv7
                    subst hv7
                    have HP7 := HP6.out.onB hb7 hltp
                    have HR7 := HR6.out.onB hb7 (by omega)
                    have hbw7 : Below w.heap.size w w7 := hbw6.trans (hb7.mono (by omega))
                    have hw7 : wp.heap.size ≤ w7.heap.size := Nat.le_trans hw6 hb7.size
                    have HP8 : Hid (Three (w7.setCell ⟨w5.heap.size, 2, none⟩ (.slice av7 n7 cv7)) w5.heap.size (.int .i64 (W : Int)) (.int .i64 (H : Int)) (.slice av7 n7 cv7)) := HP7.set2
                    have HR8 : Hid (Three (w7.setCell ⟨w5.heap.size, 2, none⟩ (.slice av7 n7 cv7)) w.heap.size (.int .i64 0) (.int .i64 0) (.slice none 0 0)) := HR7.other (by omega)
                    have HO8 : Hid ((w7.setCell ⟨w5.heap.size, 2, none⟩ (.slice av7 n7 cv7)).ownsRow wp.heap.size 88 2 (.slice av7 n7 cv7) (qs ++ pixOf row).length (pixCells (qs ++ pixOf row))) := ownsRow_setCell_below hown7 (a := ⟨w5.heap.size, 2, none⟩) hltp (.slice av7 n7 cv7)
                    have HB8 : Hid (RdB (w7.setCell ⟨w5.heap.size, 2, none⟩ (.slice av7 n7 cv7)) vrow row) := rdB_own (ownsRow_setCell_below hrow7 (a := ⟨w5.heap.size, 2, none⟩) hltp (.slice av7 n7 cv7))
                    have hb8 : Below w.heap.size w (w7.setCell ⟨w5.heap.size, 2, none⟩ (.slice av7 n7 cv7)) := hbw7.setCell (show w.heap.size ≤ w5.heap.size by omega) (.slice av7 n7 cv7)
                    have hw8 : wp.heap.size ≤ (w7.setCell ⟨w5.heap.size, 2, none⟩ (.slice av7 n7 cv7)).heap.size := by simpa using hw7
                    have hpl : (qs ++ pixOf row).length ≤ (k + 1) * 8 := by rw [List.length_append, pixOf_len W row HRLN.out]; omega
                    have hc3 := HP7.c2
                    have hf3 := HP7.f2
                    clear hown7 hrow7 hb7 HP7 HR7 HP6 HR6 HO6 HVR
                    go_wp2_with fail
                    go_roundw
                    case rel => exact ⟨k + 1, qs ++ pixOf row, row, (.slice av7 n7 cv7), by omega, by go_num, HB8, HP8, HO8, HR8, hb8, hw8, hpl, HN2⟩
                    case measure => simp [intOf]; omega
                · have HPE : Hid (parseRows us W H 0 [] = (qs, 0)) := by
                    unfold Hid; rw [HK.out, show H - k = 0 by omega]; simp [parseRows, combP]
                  have hc := HP.out
                  rw [HPE.out] at hc
                  simp at hc
                  obtain ⟨rfl, rfl, rfl, rfl⟩ := hc
                  obtain ⟨t0, t1, t2, f0, f1, f2, tl⟩ := H3R.out
                  obtain ⟨n7, HN7⟩ : ∃ n, Hid (ps.length = n) := ⟨_, (rfl : _ = _)⟩
                  obtain ⟨av7, cv7, hv7⟩ := own_any HOQ.out
                  rw [HN7.out] at hv7
                  subst hv7
                  obtain ⟨p0, p1, p2, q0, q1, q2, pl⟩ := H3P.out
                  go_wp2_with fail
                  exact bodyPost_ret (v := .tuple #[.agg #[.int .i64 (W' : Int), .int .i64 (H' : Int), .slice av7 n7 cv7], .nilIface]) (by simp [results, Tryd.results32, go_sem, t0, t1, t2]) rfl
                    ⟨_, rfl, own_mono (ownsRow_setCell_below (ownsRow_setCell_below (ownsRow_setCell_below HOQ.out (a := ⟨w.heap.size, 0, none⟩) (show w.heap.size < wp.heap.size by omega) _) (a := ⟨w.heap.size, 1, none⟩) (show w.heap.size < wp.heap.size by omega) _) (a := ⟨w.heap.size, 2, none⟩) (show w.heap.size < wp.heap.size by omega) _) (by omega),
                      ((hbr.setCell (Nat.le_refl _) _).setCell (Nat.le_refl _) _).setCell (Nat.le_refl _) _⟩
          · have HE : Hid (errV uc = .iface 69 (.int .i64 (uc : Int))) := by unfold Hid errV; rw [if_neg huc]
            have hc := HC.out
            rw [HB.out, if_pos huc] at hc
            simp only [Prod.mk.injEq] at hc
            obtain ⟨rfl, rfl, rfl, rfl⟩ := hc
            go_wp2_with fail
            refine (unpack_at2 _ _ _ hse (by omega) (by omega) x _ us uc HZ HX HE).mono ?_
            rintro e w5 ⟨rfl, hb5⟩
            obtain ⟨t0, t1, t2, f0, f1, f2, tl⟩ := HT.on hb5
            go_wp2_with fail
            exact bodyPost_ret (v := .tuple #[.agg #[.int .i64 0, .int .i64 0, .slice none 0 0], .iface 69 (.int .i64 (uc : Int))]) (by simp [results, Tryd.results32, go_sem, t0, t1, t2]) rfl ⟨_, by rw [HE.out]; rfl, World.ownsRow_nil _ _ _ _, (((hb.trans (hb5.mono hb.size)).setCell (Nat.le_refl _) _).setCell (Nat.le_refl _) _).setCell (Nat.le_refl _) _⟩
end Go.Proofs.YtfhfedcamcpceaaDoor
