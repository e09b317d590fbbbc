/- Walk of the reference's PictureOf: its pixels are its own. -- s1 -/
import Derived.Test.YtceabiodelfdoaaDoorRefFJ
namespace Go.Proofs.YtceabiodelfdoaaDoor
open Go.RowKit

set_option maxHeartbeats 40000000 in
set_option maxRecDepth 100000 in
theorem refOf_own (s : ByteArray) (w : World) (hs : s.size ≤ 1000000) (W' H' c : Nat) (ps : List (Int × Int)) (HC : Hid (parseL s.data.toList = (W', H', ps, c))) :
    Calls Tryd.prog 47 #[.string s] w fun e w' => ∃ v, e = .returned (.tuple #[.agg #[.int .i64 (W' : Int), .int .i64 (H' : Int), v], .int .i64 (c : Int)]) ∧ w'.ownsRow w.heap.size 110 2 v ps.length (pixCells ps) ∧ Below w.heap.size w w' := by
  have HL : Hid (s.data.toList.length = s.size) := by unfold Hid; simp
  by_cases h2 : s.size < 2
  · have hc := HC.out
    rw [parse_short _ (by rw [HL.out]; exact h2)] at hc
    simp only [Prod.mk.injEq] at hc
    obtain ⟨rfl, rfl, rfl, rfl⟩ := hc
    go_enter Tryd.func47, Tryd.ntmps47
    go_wp2_with fail
    exact bodyPost_ret (v := .tuple #[.agg #[.int .i64 0, .int .i64 0, .slice none 0 0], .int .i64 4]) (by simp [results, Tryd.results47, go_sem]) rfl ⟨_, rfl, World.ownsRow_nil _ _ _ _, (Below.refl _ _).alloc (Nat.le_refl _) _⟩
  · obtain ⟨x0, HX0⟩ : ∃ c, Hid (s.data.toList.getD 0 0 = c) := ⟨_, (rfl : _ = _)⟩
    obtain ⟨x1, HX1⟩ : ∃ c, Hid (s.data.toList.getD 1 0 = c) := ⟨_, (rfl : _ = _)⟩
    obtain ⟨W, HW⟩ : ∃ m, Hid (x0.toNat = m) := ⟨_, (rfl : _ = _)⟩
    obtain ⟨H, HH⟩ : ∃ m, Hid (x1.toNat = m) := ⟨_, (rfl : _ = _)⟩
    have hix0 := nat_at s 0 x0 HX0 W HW
    have hix1 := nat_at s 1 x1 HX1 H HH
    have hWb := byte_le x0 W HW
    have hHb := byte_le x1 H HH
    have h2' : 1 < s.size := by omega
    have h2'' : 0 < s.size := by omega
    have HWE : Hid ((s.data.toList.getD 0 0).toNat = W) := by unfold Hid; rw [HX0.out, HW.out]
    have HHE : Hid ((s.data.toList.getD 1 0).toNat = H) := by unfold Hid; rw [HX1.out, HH.out]
    have HL2 : Hid (¬ s.data.toList.length < 2) := by unfold Hid; rw [HL.out]; exact h2
    go_enter Tryd.func47, Tryd.ntmps47
    go_upto_region 3 with fail
    have H30 := three_start w (.int .i64 0) (.int .i64 0) (.slice none 0 0) 43
    have H3A := (H30.alloc (.cells #[.int .i64 (W : Int), .int .i64 (H : Int), .slice none 0 0] 43)).drew
    have H3B := (three_start (w.alloc (.cells #[.int .i64 0, .int .i64 0, .slice none 0 0] 43)) (.int .i64 (W : Int)) (.int .i64 (H : Int)) (.slice none 0 0) 43).drew
    have hsz0 : (w.alloc (.cells #[.int .i64 0, .int .i64 0, .slice none 0 0] 43)).heap.size = w.heap.size + 1 := by simp
    rw [hsz0] at H3B
    have hi1 : IntKind.i64.wrap (W : Int) = (W : Int) := by rw [IntKind.wrap_i64]; omega
    have hi2 : IntKind.i64.wrap (H : Int) = (H : Int) := by rw [IntKind.wrap_i64]; omega
    have hb0 : Below w.heap.size w (w.alloc (.cells #[.int .i64 0, .int .i64 0, .slice none 0 0] 43)) := (Below.refl _ _).alloc (Nat.le_refl _) _
    go_cut [4] from 12 (fun s4 wc => s4 = .pointer (some ⟨w.heap.size + 1, 0, none⟩) ∧ Three wc w.heap.size (.int .i64 0) (.int .i64 0) (.slice none 0 0) ∧ Three wc (w.heap.size + 1) (.int .i64 (W : Int)) (.int .i64 (H : Int)) (.slice none 0 0) ∧ Below w.heap.size w wc)
    case first =>
      go_region_held3 (fun _ => True) (trivial) (fail)
      all_goals (go_wp2_with fail; go_meet)
      all_goals exact ⟨rfl, H3A, H3B, (hb0.alloc hb0.size _).drew⟩
    case rest =>
      clear H3A H3B H30 hb0 hsz0 hi1 hi2 hix0 hix1
      obtain ⟨rfl, HT, HQ, hb⟩ := hcut
      obtain ⟨t0, t1, t2, f0, f1, f2, tl⟩ := HT
      obtain ⟨p0, p1, p2, q0, q1, q2, pl⟩ := HQ
      have HT : Three wc w.heap.size (.int .i64 0) (.int .i64 0) (.slice none 0 0) := ⟨t0, t1, t2, f0, f1, f2, tl⟩
      have HQ : Three wc (w.heap.size + 1) (.int .i64 (W : Int)) (.int .i64 (H : Int)) (.slice none 0 0) := ⟨p0, p1, p2, q0, q1, q2, pl⟩
      by_cases g1 : (W : Int) < 1
      · have hc := HC.out
        rw [parse_side _ W H HL2.out HWE.out HHE.out (.inl (side_false1 g1))] at hc
        simp only [Prod.mk.injEq] at hc
        obtain ⟨rfl, rfl, rfl, rfl⟩ := hc
        go_wp2_with fail
        exact bodyPost_ret (v := .tuple #[.agg #[.int .i64 0, .int .i64 0, .slice none 0 0], .int .i64 (1)]) (by simp [results, Tryd.results47, go_sem, t0, t1, t2]) rfl ⟨_, rfl, World.ownsRow_nil _ _ _ _, ((hb.setCell (Nat.le_refl _) _).setCell (Nat.le_refl _) _).setCell (Nat.le_refl _) _⟩
      by_cases g2 : 8 < (W : Int)
      · have hc := HC.out
        rw [parse_side _ W H HL2.out HWE.out HHE.out (.inl (side_false8 g2))] at hc
        simp only [Prod.mk.injEq] at hc
        obtain ⟨rfl, rfl, rfl, rfl⟩ := hc
        go_wp2_with fail
        exact bodyPost_ret (v := .tuple #[.agg #[.int .i64 0, .int .i64 0, .slice none 0 0], .int .i64 (1)]) (by simp [results, Tryd.results47, go_sem, t0, t1, t2]) rfl ⟨_, rfl, World.ownsRow_nil _ _ _ _, ((hb.setCell (Nat.le_refl _) _).setCell (Nat.le_refl _) _).setCell (Nat.le_refl _) _⟩
      by_cases g3 : (H : Int) < 1
      · have hc := HC.out
        rw [parse_side _ W H HL2.out HWE.out HHE.out (.inr (side_false1 g3))] at hc
        simp only [Prod.mk.injEq] at hc
        obtain ⟨rfl, rfl, rfl, rfl⟩ := hc
        go_wp2_with fail
        exact bodyPost_ret (v := .tuple #[.agg #[.int .i64 0, .int .i64 0, .slice none 0 0], .int .i64 (1)]) (by simp [results, Tryd.results47, go_sem, t0, t1, t2]) rfl ⟨_, rfl, World.ownsRow_nil _ _ _ _, ((hb.setCell (Nat.le_refl _) _).setCell (Nat.le_refl _) _).setCell (Nat.le_refl _) _⟩
      by_cases g4 : 8 < (H : Int)
      · have hc := HC.out
        rw [parse_side _ W H HL2.out HWE.out HHE.out (.inr (side_false8 g4))] at hc
        simp only [Prod.mk.injEq] at hc
        obtain ⟨rfl, rfl, rfl, rfl⟩ := hc
        go_wp2_with fail
        exact bodyPost_ret (v := .tuple #[.agg #[.int .i64 0, .int .i64 0, .slice none 0 0], .int .i64 (1)]) (by simp [results, Tryd.results47, go_sem, t0, t1, t2]) rfl ⟨_, rfl, World.ownsRow_nil _ _ _ _, ((hb.setCell (Nat.le_refl _) _).setCell (Nat.le_refl _) _).setCell (Nat.le_refl _) _⟩
      have HNS : Hid (¬ (sideB (W : Int) = false ∨ sideB (H : Int) = false)) := by unfold Hid; rw [side_true g1 g2, side_true g3 g4]; simp
      have hW1 : 1 ≤ W := by omega
      have hW8 : W ≤ 8 := by omega
      have hH1 : 1 ≤ H := by omega
      have hH8 : H ≤ 8 := by omega
      obtain ⟨L, HLN⟩ : ∃ L, Hid (1 + 2 * W = L) := ⟨_, (rfl : _ = _)⟩
      have hL1 : L ≤ 17 := by rw [← HLN.out]; omega
      have hL2 : 3 ≤ L := by rw [← HLN.out]; omega
      have hLI : 1 + 2 * (W : Int) = (L : Int) := by rw [← HLN.out]; simp
      obtain ⟨M, HM⟩ : ∃ M, Hid (H * L = M) := ⟨_, (rfl : _ = _)⟩
      have hM : M ≤ 136 := by rw [← HM.out]; have := Nat.mul_le_mul (show H ≤ 8 by omega) hL1; omega
      have hMI : (H : Int) * (L : Int) = (M : Int) := by rw [← HM.out]; simp
      obtain ⟨z, HZ⟩ : ∃ z, Hid (Fb.unpack (s.extract 2 s.size).data.toList (M : Int) = z) := ⟨_, (rfl : _ = _)⟩
      obtain ⟨us, uc⟩ := z
      have HU : Hid (Fb.unpack (s.data.toList.drop 2) ((H * (1 + 2 * W) : Nat) : Int) = (us, uc)) := by unfold Hid; rw [← ext_drop2, HLN.out, HM.out]; exact HZ.out
      have HB : Hid (parseL s.data.toList = if uc ≠ 0 then (0, 0, [], uc) else if us.length < M then (0, 0, [], 4) else if (parseRows us W H 0 []).2 ≠ 0 then (0, 0, [], (parseRows us W H 0 []).2) else (W, H, (parseRows us W H 0 []).1, 0)) := by
        unfold Hid; rw [parse_body _ W H HL2.out HWE.out HHE.out HNS.out us uc HU.out, HLN.out, HM.out]
      have hse : (s.extract 2 s.size).size ≤ 1000000 := by rw [ByteArray.size_extract]; omega
      obtain ⟨x, HX⟩ : ∃ t : ByteArray, Hid (us = t.data.toList) := ⟨⟨us.toArray⟩, by unfold Hid; simp⟩
      have HXS : Hid (x.size = us.length) := by unfold Hid; rw [HX.out]; simp
      have hv1 : (2 : Int) ≤ (s.size : Int) := by omega
      have hv2 : 2 ≤ s.size := by omega
      have hwr1 : IntKind.i64.wrap ((M : Int)) = (M : Int) := by rw [IntKind.wrap_i64]; omega
      have HTD : Hid (Three wc.drew w.heap.size (.int .i64 0) (.int .i64 0) (.slice none 0 0)) := HT.drew
      have HQD : Hid (Three wc.drew (w.heap.size + 1) (.int .i64 (W : Int)) (.int .i64 (H : Int)) (.slice none 0 0)) := HQ.drew
      have hbD : Below w.heap.size w wc.drew := hb.drew
      go_wp2_with fail
      go_region_held3 (fun w' => w'.cell? ⟨w.heap.size + 1, 1, none⟩ = some (.int .i64 (H : Int))) (first | exact p1 | fail)
        (first | (go_at_call 69; refine (unpacked_v _ _ _ hse (by omega) (by omega) x us uc HZ HX).mono ?_; rintro e wx ⟨rfl, rfl⟩) | fail)
      by_cases huc : uc = 0
      · subst huc
        by_cases hshort : x.size < M
        · have hc := HC.out
          rw [HB.out, if_neg (by simp), if_pos (by rw [← HXS.out]; exact hshort)] at hc
          simp only [Prod.mk.injEq] at hc
          obtain ⟨rfl, rfl, rfl, rfl⟩ := hc
          go_wp2_with fail
          exact bodyPost_ret (v := .tuple #[.agg #[.int .i64 0, .int .i64 0, .slice none 0 0], .int .i64 (4)]) (by simp [results, Tryd.results47, go_sem, t0, t1, t2]) rfl ⟨_, rfl, World.ownsRow_nil _ _ _ _, ((hbD.setCell (Nat.le_refl _) _).setCell (Nat.le_refl _) _).setCell (Nat.le_refl _) _⟩
        · have HP : Hid ((W', H', ps, c) = if (parseRows us W H 0 []).2 ≠ 0 then (0, 0, [], (parseRows us W H 0 []).2) else (W, H, (parseRows us W H 0 []).1, 0)) := by
            unfold Hid; rw [← HC.out, HB.out, if_neg (by simp), if_neg (by rw [← HXS.out]; exact hshort)]
          have hfit : M ≤ x.size := by omega
          obtain ⟨N, HN⟩ : ∃ N, Hid (W * H = N) := ⟨_, (rfl : _ = _)⟩
          have hN : N ≤ 64 := by rw [← HN.out]; have := Nat.mul_le_mul hW8 hH8; omega
          have hNI : (W : Int) * (H : Int) = (N : Int) := by rw [← HN.out]; simp
          obtain ⟨i0, hi, hz0, hz1, hz2⟩ := info_parts Tryd.infoPix
          have hpl : w.heap.size + 1 < wc.heap.size := pl
          go_wp2_with (at_make; refine wpList_make_full _ rfl _ _ 41 rfl wc.heap.size 110 i0 (.agg #[.int .i64 0, .int .i64 0]) 2 Tryd.underlying41 hi hz0 hz1 _ _ _ _ N rfl rfl ?a1 ?a2 ?b1 ?b2 ?b3 ?_)
          case a1 => first | rfl | omega
          case a2 => first | rfl | omega
          case b1 => rw [hz2]; omega
          case b2 => unfold maxLen; omega
          case b3 => exact Nat.le_refl _
          intro W0 hown0 hgrow0
          rw [made_two] at hown0
          have hb0 : Below wc.heap.size wc.drew W0 := (Below.refl _ _).grown hgrow0 (Nat.le_refl _) (by intro k hk; cases hk)
          have HT0 := HTD.out.onB hb0 (by omega)
          have HQ0 := HQD.out.onB hb0 hpl
          have hbw0 : Below w.heap.size w W0 := hbD.trans (hb0.mono (by omega))
          have hW0 : wc.heap.size < W0.heap.size := (hown0.lt wc.heap.size rfl).2
          have hc2 := HQ0.c2
          have hf2 := HQ0.f2
          have HQ1 : Hid (Three (W0.setCell ⟨w.heap.size + 1, 2, none⟩ (.slice (some ⟨wc.heap.size, 0, none⟩) N N)) (w.heap.size + 1) (.int .i64 (W : Int)) (.int .i64 (H : Int)) (.slice (some ⟨wc.heap.size, 0, none⟩) N N)) := HQ0.set2
          have HT1 : Hid (Three (W0.setCell ⟨w.heap.size + 1, 2, none⟩ (.slice (some ⟨wc.heap.size, 0, none⟩) N N)) w.heap.size (.int .i64 0) (.int .i64 0) (.slice none 0 0)) := HT0.other (by omega)
          have HO1 : Hid ((W0.setCell ⟨w.heap.size + 1, 2, none⟩ (.slice (some ⟨wc.heap.size, 0, none⟩) N N)).ownsRow wc.heap.size 110 2 (.slice (some ⟨wc.heap.size, 0, none⟩) N N) N ((List.replicate (N * 2) (0 : UInt8)).map iv)) := ownsRow_setCell_below hown0 (a := ⟨w.heap.size + 1, 2, none⟩) hpl _
          have hb1 : Below w.heap.size w (W0.setCell ⟨w.heap.size + 1, 2, none⟩ (.slice (some ⟨wc.heap.size, 0, none⟩) N N)) := hbw0.setCell (show w.heap.size ≤ w.heap.size + 1 by omega) _
          clear hgrow0 hown0 hb0 HT0 HQ0 hbw0
          go_wp2_with fail
          clear hc2 hf2 t0 t1 t2 f0 f1 f2 tl p0 p1 p2 q0 q1 q2 pl HTD HQD hbD HT HQ hb
          go_loopw [8] (fun y wr => ∃ (k : Nat) (done : List UInt8), k ≤ H ∧ y = .int .i64 k ∧ Hid (done.length = k * (2 * W)) ∧ Hid (wr.ownsRow wc.heap.size 110 2 (.slice (some ⟨wc.heap.size, 0, none⟩) N N) N ((done ++ List.replicate (N * 2 - done.length) 0).map iv)) ∧ Hid (Three wr (w.heap.size + 1) (.int .i64 (W : Int)) (.int .i64 (H : Int)) (.slice (some ⟨wc.heap.size, 0, none⟩) N N)) ∧ Hid (Three wr w.heap.size (.int .i64 0) (.int .i64 0) (.slice none 0 0)) ∧ Below w.heap.size w wr ∧ Hid (parseRows us W H 0 [] = combP (pixOf done) (parseRows us W (H - k) k (abG done (2 * W) k)))) (fun y _ => H - (intOf y).toNat)
          case atStart => exact ⟨0, [], by omega, rfl, by simp [Hid], HO1, HQ1, HT1, hb1, (rows_nil _ _ _ _ _).symm⟩
          case round =>
            clear HO1 HQ1 HT1 hb1
            obtain ⟨k, done, hk, rfl, HDL, HOD, HQR, HTR, hbr, HK⟩ := hrel
            obtain ⟨t0, t1, t2, f0, f1, f2, tl⟩ := HTR.out
            obtain ⟨p0, p1, p2, q0, q1, q2, pl⟩ := HQR.out
            by_cases hlt : k < H
            · obtain ⟨lo, HLO⟩ : ∃ lo, Hid (k * L = lo) := ⟨_, (rfl : _ = _)⟩
              have hlom : lo + L ≤ M := by
                rw [← HLO.out, ← HM.out]
                have h1 : (k + 1) * L ≤ H * L := Nat.mul_le_mul_right L (by omega)
                rw [Nat.add_mul, Nat.one_mul] at h1; exact h1
              have hm1 : (k : Int) * (L : Int) = (lo : Int) := by rw [← HLO.out]; simp
              have hlox : lo < x.size := by omega
              obtain ⟨wb, HWB⟩ : ∃ c, Hid (x.data.toList.getD lo 0 = c) := ⟨_, (rfl : _ = _)⟩
              obtain ⟨way, HWAY⟩ : ∃ m, Hid (wb.toNat = m) := ⟨_, (rfl : _ = _)⟩
              have hixw := nat_at x lo wb HWB way HWAY
              have hwyb := byte_le wb way HWAY
              have HWE2 : Hid ((us.getD (k * (1 + 2 * W)) 0).toNat = way) := by unfold Hid; rw [HLN.out, HLO.out, HX.out, HWB.out, HWAY.out]
              have HHK : Hid (H - k = (H - (k + 1)) + 1) := by unfold Hid; omega
              by_cases hw4 : 4 ≤ way
              · have HPE : Hid (parseRows us W H 0 [] = ([], 4)) := by
                  unfold Hid; rw [HK.out, HHK.out, rows_err _ _ _ _ _ (by rw [HWE2.out]; exact hw4)]; rfl
                have hc := HP.out
                rw [HPE.out] at hc
                simp at hc
                obtain ⟨rfl, rfl, rfl, rfl⟩ := hc
                go_wp2_with fail
                exact bodyPost_ret (v := .tuple #[.agg #[.int .i64 0, .int .i64 0, .slice none 0 0], .int .i64 4]) (by simp [results, Tryd.results47, go_sem, t0, t1, t2]) rfl ⟨_, rfl, World.ownsRow_nil _ _ _ _, ((hbr.setCell (Nat.le_refl _) _).setCell (Nat.le_refl _) _).setCell (Nat.le_refl _) _⟩
              · obtain ⟨told, HTOLD⟩ : ∃ l, Hid ((us.drop (k * (1 + 2 * W) + 1)).take (2 * W) = l) := ⟨_, (rfl : _ = _)⟩
                obtain ⟨ab, HAB⟩ : ∃ l, Hid (abG done (2 * W) k = l) := ⟨_, (rfl : _ = _)⟩
                have HTL : Hid (told.length = 2 * W) := by
                  unfold Hid; rw [← HTOLD.out, List.length_take, List.length_drop, HLN.out, HLO.out, ← HXS.out]
                  have := HLN.out; omega
                have HKN : Hid (k * (2 * W) + 2 * W ≤ N * 2) := by
                  unfold Hid
                  have h1 : (k + 1) * (2 * W) ≤ H * (2 * W) := Nat.mul_le_mul_right _ (by omega)
                  rw [Nat.add_mul, Nat.one_mul] at h1
                  have h2 : H * (2 * W) = N * 2 := by rw [← HN.out, Nat.mul_left_comm, Nat.mul_comm H W, Nat.mul_comm]
                  omega
                go_wp2_with fail
                go_loopw [10] (fun iw wr2 => ∃ i : Nat, i ≤ 2 * W ∧ iw = .int .i64 i ∧ Hid (wr2.ownsRow wc.heap.size 110 2 (.slice (some ⟨wc.heap.size, 0, none⟩) N N) N (((done ++ Fb.restTo way told ab i) ++ List.replicate (N * 2 - (k * (2 * W) + i)) 0).map iv)) ∧ Hid (Three wr2 (w.heap.size + 1) (.int .i64 (W : Int)) (.int .i64 (H : Int)) (.slice (some ⟨wc.heap.size, 0, none⟩) N N)) ∧ Hid (Three wr2 w.heap.size (.int .i64 0) (.int .i64 0) (.slice none 0 0)) ∧ Below w.heap.size w wr2) (fun iw _ => 2 * W - (intOf iw).toNat)
                case atStart => exact ⟨0, by omega, rfl, by unfold Hid; rw [Fb.restTo, List.append_nil, Nat.add_zero, ← HDL.out]; exact HOD.out, HQR, HTR, hbr⟩
                case round =>
                  clear t0 t1 t2 f0 f1 f2 tl p0 p1 p2 q0 q1 q2 pl HOD HQR HTR hbr
                  obtain ⟨i, hi, rfl, HOI, HQI, HTI, hbi⟩ := hrel
                  obtain ⟨p0, p1, p2, q0, q1, q2, pl⟩ := HQI.out
                  by_cases hi2 : i < 2 * W
                  · obtain ⟨r0, HR0⟩ : ∃ l, Hid (Fb.restTo way told ab i = l) := ⟨_, (rfl : _ = _)⟩
                    have HRL0 : Hid (r0.length = i) := by unfold Hid; rw [← HR0.out, Fb.restTo_len]
                    obtain ⟨cur, HCUR⟩ : ∃ l, Hid ((done ++ r0) ++ List.replicate (N * 2 - (k * (2 * W) + i)) 0 = l) := ⟨(done ++ r0) ++ List.replicate (N * 2 - (k * (2 * W) + i)) 0, by unfold Hid; rfl⟩
                    have HCL : Hid (cur.length = 2 * N) := by
                      unfold Hid; rw [← HCUR.out, List.length_append, List.length_append, List.length_replicate, HDL.out, HRL0.out]; have := HKN.out; omega
                    have HCLH : Hid (cur.length = H * (2 * W)) := by unfold Hid; rw [HCL.out, ← HN.out, Nat.mul_left_comm H 2 W, Nat.mul_comm H W]
                    have HG0 : Hid (Gf wc.heap.size (w.heap.size + 1) w W H N cur wr) := by
                      refine ⟨?_, HQI.out, HTI.out, hbi⟩
                      rw [← HCUR.out, ← HR0.out]; exact HOI.out
                    have HGD := HG0.out.drew
                    obtain ⟨tc, HTC⟩ : ∃ c, Hid (x.data.toList.getD (lo + 1 + i) 0 = c) := ⟨_, (rfl : _ = _)⟩
                    obtain ⟨ct, HCT⟩ : ∃ m, Hid (tc.toNat = m) := ⟨_, (rfl : _ = _)⟩
                    have hixt := nat_at x (lo + 1 + i) tc HTC ct HCT
                    have hctb := byte_le tc ct HCT
                    have hlx : lo + 1 + i < x.size := by have := HLN.out; omega
                    obtain ⟨bl, HBL⟩ : ∃ r, Hid ((leftG cur (2 * W) k i).toNat = r) := ⟨_, (rfl : _ = _)⟩
                    obtain ⟨bu, HBU⟩ : ∃ r, Hid ((upG cur (2 * W) k i).toNat = r) := ⟨_, (rfl : _ = _)⟩
                    obtain ⟨bg, HBG⟩ : ∃ r, Hid (guessN way bl bu = r) := ⟨_, (rfl : _ = _)⟩
                    have hbl := byte_le _ bl HBL
                    have hbu := byte_le _ bu HBU
                    have hbgb : bg ≤ 255 := by rw [← HBG.out]; exact guessN_le way bl bu hbl hbu
                    obtain ⟨nd, HND⟩ : ∃ nd, Hid (told.getD i 0 + Fb.guessB way r0 ab i = nd) := ⟨_, (rfl : _ = _)⟩
                    obtain ⟨D, HD⟩ : ∃ D, Hid (nd.toNat = D) := ⟨_, (rfl : _ = _)⟩
                    have hDb := byte_le nd D HD
                    have HTG : Hid (told.getD i 0 = tc) := by
                      unfold Hid
                      rw [← HTOLD.out, Fb.getD_take _ _ _ hi2, List.getD_eq_getElem?_getD, List.getElem?_drop, ← List.getD_eq_getElem?_getD, HLN.out, HLO.out, HX.out, HTC.out]
                    have HGG : Hid ((Fb.guessB way r0 ab i).toNat = bg) := by
                      unfold Hid
                      rw [← HBG.out, ← HBL.out, ← HBU.out]
                      refine (guess_byte way _ _ _ ?_).symm
                      rw [← HCUR.out, left_cur done r0 _ (2 * W) k i HDL.out HRL0.out, up_cur done r0 _ (2 * W) k i HDL.out hi2, HAB.out]; rfl
                    have hDm : (ct + bg) % 256 = D := by rw [← HD.out, ← HND.out, HTG.out]; exact (read_byte tc _ ct bg HCT.out HGG.out).symm
                    have hDi : ((ct : Int) + (bg : Int)) % 256 = (D : Int) := by omega
                    have hDt : ((ct : Int) + (bg : Int)).tmod 256 = (D : Int) := by rw [Int.tmod_eq_emod_of_nonneg (by omega)]; exact hDi
                    have hs1 : IntKind.i64.wrap ((ct : Int) + (bg : Int)) = (ct : Int) + (bg : Int) := by rw [IntKind.wrap_i64]; omega
                    have hs2 : IntKind.i64.wrap (D : Int) = (D : Int) := by rw [IntKind.wrap_i64]; omega
                    have hs3 : IntKind.i64.wrap (lo : Int) = (lo : Int) := by rw [IntKind.wrap_i64]; omega
                    have hs4 : IntKind.i64.wrap ((lo : Int) + 1) = (lo : Int) + 1 := by rw [IntKind.wrap_i64]; omega
                    have hs5 : IntKind.i64.wrap ((lo : Int) + 1 + (i : Int)) = (lo : Int) + 1 + (i : Int) := by rw [IntKind.wrap_i64]; omega
                    have hs6 : ((lo : Int) + 1 + (i : Int)).toNat = lo + 1 + i := by omega
                    have hs7 : (0 : Int) ≤ (lo : Int) + 1 + (i : Int) := by omega
                    have hs8 : (lo : Int) + 1 + (i : Int) < (x.size : Int) := by omega
                    have hs9 : IntKind.i64.wrap (ct : Int) = (ct : Int) := by rw [IntKind.wrap_i64]; omega
                    have hq1 : IntKind.i64.wrap ((i : Int) - 2) = (i : Int) - 2 := by rw [IntKind.wrap_i64]; omega
                    have hq2 : IntKind.i64.wrap ((k : Int) - 1) = (k : Int) - 1 := by rw [IntKind.wrap_i64]; omega
                    have hwy : way < 4 := by omega
                    obtain ⟨kw, HKW⟩ : ∃ r, Hid (k * W = r) := ⟨_, (rfl : _ = _)⟩
                    have hkw : kw ≤ 64 := by rw [← HKW.out]; have := Nat.mul_le_mul (show k ≤ 8 by omega) hW8; omega
                    have hkwI : (k : Int) * (W : Int) = (kw : Int) := by rw [← HKW.out]; simp
                    have hkwN : kw + i / 2 < N := by have h := HKN.out; rw [Nat.mul_left_comm, HKW.out] at h; omega
                    have hjN : k * (2 * W) + i < N * 2 := by have h := HKN.out; omega
                    have HAL : Hid ((done ++ r0).length = k * (2 * W) + i) := by unfold Hid; rw [List.length_append, HDL.out, HRL0.out]
                    have HST0 : Hid ((done ++ r0) ++ [nd] = done ++ Fb.restTo way told ab (i + 1)) := by
                      unfold Hid; rw [Fb.restTo, HR0.out, HND.out, List.append_assoc]
                    clear hDm
                    go_wp2_with fail
                    go_region_held3 (fun w' => w'.cell? ⟨w.heap.size + 1, 0, none⟩ = some (.int .i64 (W : Int)) ∧ w'.cell? ⟨w.heap.size + 1, 1, none⟩ = some (.int .i64 (H : Int)) ∧ w'.cell? ⟨w.heap.size + 1, 2, none⟩ = some (.slice (some ⟨wc.heap.size, 0, none⟩) N N) ∧ Hid (Gf wc.heap.size (w.heap.size + 1) w W H N cur w'))
                      (first | exact ⟨HGb.2.1.c0, HGb.2.1.c1, HGb.2.1.c2, HGb⟩ | exact ⟨HGa.2.1.c0, HGa.2.1.c1, HGa.2.1.c2, HGa⟩ | exact ⟨HGD.2.1.c0, HGD.2.1.c1, HGD.2.1.c2, HGD⟩ | fail)
                      (first
                        | (go_at_call 62; refine (guess_any way bl bu _ hwy hbl hbu bg HBG).mono ?_; rintro e wx ⟨rfl, rfl⟩)
                        | (go_at_call 61; have HGa1 := HGa.rd HCL.out; refine (up_at W H k i _ _ _ cur _ HGa1 hW8 hH8 hlt hi2 HCLH bu HBU).mono ?_; rintro e wx ⟨rfl, hbx⟩; have HGb := HGa.on hbx)
                        | (go_at_call 61; have HGD1 := HGD.rd HCL.out; refine (left_at W H k i _ _ _ cur _ HGD1 hW8 hH8 hlt hi2 HCLH bl HBL).mono ?_; rintro e wx ⟨rfl, hbx⟩; have HGa := HGD.on hbx)
                        | fail)
                    all_goals rw [← HCUR.out] at HGb
                    all_goals (have HAT := HGb.at (j := k * (2 * W) + i) HAL.out hjN)
                    all_goals (have HST : Hid (Gf _ _ _ _ _ _ _ _) := HGb.store (j := k * (2 * W) + i) HAL.out hjN (by omega) (by omega) nd D HD.out)
                    all_goals rw [HST0.out] at HST
                    all_goals obtain ⟨d0, d1⟩ := HAT
                    all_goals (have HB3 := HGb.2.1; obtain ⟨b0, b1, b2, _, _, _, _⟩ := HB3)
                    all_goals clear HGa HGb HGD p0 p1 p2 q0 q1 q2 pl HG0 HOI HQI HTI
                    all_goals
                      (by_cases hp : i % 2 = 0
                       · have hje : k * (2 * W) + i = (kw + i / 2) * 2 := by rw [Nat.mul_left_comm, HKW.out]; omega
                         have hme : (i : Int) % 2 = 0 := by omega
                         have hmt : (i : Int).tmod 2 = 0 := by rw [Int.tmod_eq_emod_of_nonneg (by omega)]; exact hme
                         rw [hje] at d0 d1
                         go_wp2_with fail
                         go_roundw
                         case rel => rw [← hje]; exact ⟨i + 1, by omega, by go_num, HST.out.1, HST.out.2.1, HST.out.2.2.1, HST.out.2.2.2⟩
                         case measure => simp [intOf]; omega
                       · have hje : k * (2 * W) + i = (kw + i / 2) * 2 + 1 := by rw [Nat.mul_left_comm, HKW.out]; omega
                         have hme : (i : Int) % 2 = 1 := by omega
                         have hmt : (i : Int).tmod 2 = 1 := by rw [Int.tmod_eq_emod_of_nonneg (by omega)]; exact hme
                         rw [hje] at d0 d1
                         go_wp2_with fail
                         go_roundw
                         case rel => rw [← hje]; exact ⟨i + 1, by omega, by go_num, HST.out.1, HST.out.2.1, HST.out.2.2.1, HST.out.2.2.2⟩
                         case measure => simp [intOf]; omega)
                  · have hie : i = 2 * W := by omega
                    subst hie
                    obtain ⟨row, HROW⟩ : ∃ row, Hid (Fb.restL way told ab = row) := ⟨_, (rfl : _ = _)⟩
                    have HRR : Hid (Fb.restTo way told ab (2 * W) = row) := by unfold Hid; rw [← HROW.out, Fb.restL, HTL.out]
                    have HRL : Hid (row.length = 2 * W) := by unfold Hid; rw [← HRR.out, Fb.restTo_len]
                    have HDN : Hid ((done ++ row).length = (k + 1) * (2 * W)) := by unfold Hid; rw [List.length_append, HDL.out, HRL.out, Nat.add_mul, Nat.one_mul]
                    have HON : Hid (wr.ownsRow wc.heap.size 110 2 (.slice (some ⟨wc.heap.size, 0, none⟩) N N) N (((done ++ row) ++ List.replicate (N * 2 - (done ++ row).length) 0).map iv)) := by
                      unfold Hid; rw [HDN.out, Nat.add_mul, Nat.one_mul, ← HRR.out]; exact HOI.out
                    have HABN : Hid (abG (done ++ row) (2 * W) (k + 1) = row) := by
                      unfold Hid abG rowG
                      rw [if_neg (by omega), Nat.add_sub_cancel, ← HDL.out, List.drop_left, List.take_of_length_le (by rw [HRL.out]; exact Nat.le_refl _)]
                    have HKK : Hid (parseRows us W H 0 [] = combP (pixOf (done ++ row)) (parseRows us W (H - (k + 1)) (k + 1) (abG (done ++ row) (2 * W) (k + 1)))) := by
                      unfold Hid
                      rw [HK.out, HHK.out, rows_step _ _ _ _ _ (by rw [HWE2.out]; exact hw4), combP_combP, HWE2.out, HTOLD.out, HAB.out, HROW.out, HABN.out, pixOf_app k W done row HDL.out]
                    go_wp2_with fail
                    go_roundw
                    case rel => exact ⟨k + 1, done ++ row, by omega, by go_num, HDN, HON, HQI, HTI, hbi, HKK⟩
                    case measure => simp [intOf]; omega
            · have hkH : k = H := by omega
              have HPE : Hid (parseRows us W H 0 [] = (pixOf done, 0)) := by
                unfold Hid; rw [HK.out, show H - k = 0 by omega]; simp [parseRows, combP]
              have HD2 : Hid (done.length = 2 * N) := by unfold Hid; rw [HDL.out, hkH, ← HN.out, Nat.mul_left_comm, Nat.mul_comm H W]
              have hc := HP.out
              rw [HPE.out] at hc
              simp at hc
              obtain ⟨rfl, rfl, rfl, rfl⟩ := hc
              have HOF : Hid (wr.ownsRow wc.heap.size 110 2 (.slice (some ⟨wc.heap.size, 0, none⟩) N N) (pixOf done).length (pixCells (pixOf done))) := by
                unfold Hid
                have h := HOD.out
                rw [HD2.out, Nat.mul_comm N 2, Nat.sub_self, List.replicate_zero, List.append_nil] at h
                rw [pixCells_pixOf N done HD2.out, pixOf_len N done HD2.out]; exact h
              clear hkH
              go_wp2_with fail
              exact bodyPost_ret (v := .tuple #[.agg #[.int .i64 (W' : Int), .int .i64 (H' : Int), .slice (some ⟨wc.heap.size, 0, none⟩) N N], .int .i64 0]) (by simp [results, Tryd.results47, go_sem, t0, t1, t2]) rfl
                ⟨_, rfl, own_mono (ownsRow_setCell_below (ownsRow_setCell_below (ownsRow_setCell_below HOF.out (a := ⟨w.heap.size, 0, none⟩) (show w.heap.size < wc.heap.size by omega) _) (a := ⟨w.heap.size, 1, none⟩) (show w.heap.size < wc.heap.size by omega) _) (a := ⟨w.heap.size, 2, none⟩) (show w.heap.size < wc.heap.size by omega) _) (by omega),
                  ((hbr.setCell (Nat.le_refl _) _).setCell (Nat.le_refl _) _).setCell (Nat.le_refl _) _⟩
      · have hc := HC.out
        have hucp : (0 : Int) < (uc : Int) := by omega
        rw [HB.out, if_pos huc] at hc
        simp only [Prod.mk.injEq] at hc
        obtain ⟨rfl, rfl, rfl, rfl⟩ := hc
        go_wp2_with fail
        exact bodyPost_ret (v := .tuple #[.agg #[.int .i64 0, .int .i64 0, .slice none 0 0], .int .i64 ((uc : Int))]) (by simp [results, Tryd.results47, go_sem, t0, t1, t2]) rfl ⟨_, rfl, World.ownsRow_nil _ _ _ _, ((hbD.setCell (Nat.le_refl _) _).setCell (Nat.le_refl _) _).setCell (Nat.le_refl _) _⟩
end Go.Proofs.YtceabiodelfdoaaDoor
