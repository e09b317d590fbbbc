/- Walk of the law TopAway. -/
import Derived.Test.YtbdgcomjhblnfaaDoorTopStillWJ
namespace Go.Proofs.YtbdgcomjhblnfaaDoor
open Go.RowKit Go.Maps

set_option maxHeartbeats 8000000 in
set_option maxRecDepth 100000 in
theorem topAway_any (v : Value) (hd : List Pq) (id : Int) (w : World) (HS : Hid (Shapes w)) (h1 : 0 < w.heap.size) (HR : Hid (RdQ w v hd)) :
    Calls Tryd.prog 8 #[v, .int .i64 id] w fun e w' => e = .returned (.bool true) ∧ Below w.heap.size w w' := by
  obtain ⟨ha, hc, hv, _, _⟩ := HR.out.shape
  obtain ⟨hn, HN⟩ : ∃ n, Hid (hd.length = n) := ⟨_, (rfl : _ = _)⟩
  rw [HN.out] at hv
  subst hv
  go_enter Tryd.func8, Tryd.ntmps8
  go_wp2_with fail
  refine (works_any _ HS h1).mono ?_
  rintro e w1 ⟨rfl, hb1⟩
  have HS1 : Hid (Shapes w1) := HS.out.on h1 hb1
  have h11 := Nat.lt_of_lt_of_le h1 hb1.size
  have HR1 : Hid (RdQ w1 (.slice ha hn hc) hd) := HR.out.on hb1
  by_cases gq0 : (30 : Int) < (hn : Int)
  · go_wp2_with fail
    go_ret
    exact ⟨rfl, hb1⟩
  go_wp2_with fail
  refine (plain_any _ hd _ HR1 (by rw [HN.out]; omega)).mono ?_
  rintro e w2 ⟨bl, rfl, hpl, hb2⟩
  have hbb2 := hb1.trans (hb2.mono hb1.size)
  clear hb2 HS1 h11 HR1
  cases bl with
  | false =>
    go_wp2_with fail
    go_ret
    exact ⟨rfl, hbb2⟩
  | true =>
    have HPL := hid_of2 (hpl rfl)
    clear hpl
    by_cases gq0 : id < 1
    · go_wp2_with fail
      go_ret
      exact ⟨rfl, hbb2⟩
    by_cases gq1 : 6 < id
    · go_wp2_with fail
      go_ret
      exact ⟨rfl, hbb2⟩
    have hl30 : hd.length ≤ 30 := by rw [HN.out]; omega
    have hbx2 := hbb2.alloc hbb2.size (.cells (qrCells (litQ [hdQ 4 3])).toArray 37)
    obtain ⟨v4, w4, hr4, A4⟩ := sh_app_rd (sh_lit hbb2 [hdQ 4 3] (by simp) (by simp)) hbx2 HR.out (by simp; omega)
    obtain ⟨v5, w5, hr5, A5⟩ := sh_app_sh (sh_nil w w4) A4.bel A4.row (by simp; omega)
    rw [List.nil_append] at A5
    obtain ⟨l5, _⟩ := A5.sep A4.row (sep_nil v4)
    have s45 := (A5.sep A4.row (sep_nil v4)).2
    obtain ⟨v6, w6, hr6, A6⟩ := sh_app_lit A5.row A5.bel [drQ id, wtQ 0, enQ] (by intro q hq; simp at hq; rcases hq with rfl | rfl | rfl <;> rfl) (by simp; omega)
    obtain ⟨l6, s46⟩ := A6.sep (l5.on (alloc_bel _ _)) s45
    obtain ⟨v7, w7, hr7, A7⟩ := sh_app_sh (sh_nil w w6) A6.bel l6 (by simp; omega)
    rw [List.nil_append] at A7
    obtain ⟨a7, s67⟩ := A7.sep A6.row (sep_nil v6)
    obtain ⟨v8, w8, hr8, A8⟩ := sh_app_lit A7.row A7.bel [shQ id 0, wtQ 0, enQ] (by intro q hq; simp at hq; rcases hq with rfl | rfl | rfl <;> rfl) (by simp; omega)
    obtain ⟨a8, _⟩ := A8.sep (a7.on (alloc_bel _ _)) s67
    have HR4 := hid_of2 hr4
    have HR5 := hid_of2 hr5
    have HR6 := hid_of2 hr6
    have HR7 := hid_of2 hr7
    have HR8 := hid_of2 hr8
    obtain ⟨QA, HQA⟩ : ∃ Q, Hid ([hdQ 4 3] ++ hd ++ [drQ id, wtQ 0, enQ] = Q) := ⟨_, (rfl : _ = _)⟩
    obtain ⟨QB, HQB⟩ : ∃ Q, Hid ([hdQ 4 3] ++ hd ++ [shQ id 0, wtQ 0, enQ] = Q) := ⟨_, (rfl : _ = _)⟩
    have a8' := a8
    have b8' := A8.row
    rw [HQA.out] at a8'
    rw [HQB.out] at b8'
    have hbb8 := A8.bel
    have HQA8 : Hid (RdQ w8 v6 QA) := a8'.rd hbb8
    have HQB8 : Hid (RdQ w8 v8 QB) := b8'.rd hbb8
    have HS8 : Hid (Shapes w8) := HS.out.on h1 hbb8
    have h18 := Nat.lt_of_lt_of_le h1 hbb8.size
    clear A4 A5 A6 A7 A8 l5 l6 a7 a8 a8' b8' s45 s46 s67 hr4 hr5 hr6 hr7 hr8 hbx2 hbb2
    go_wp2_with (at_builtin; first | (refine Lib.wpList_append_run _ rfl _ _ _ _ rfl _ _ rfl rfl _ _ HR4.out ?_) | (refine Lib.wpList_append_run _ rfl _ _ _ _ rfl _ _ rfl rfl _ _ HR5.out ?_) | (refine Lib.wpList_append_run _ rfl _ _ _ _ rfl _ _ rfl rfl _ _ HR6.out ?_) | (refine Lib.wpList_append_run _ rfl _ _ _ _ rfl _ _ rfl rfl _ _ HR7.out ?_) | (refine Lib.wpList_append_run _ rfl _ _ _ _ rfl _ _ rfl rfl _ _ HR8.out ?_))
    refine (may_any _ QA _ HS8 h18 HQA8).mono ?_
    rintro e w9 ⟨bm9, rfl, hm9, hb9⟩
    have hbb9 := hbb8.trans (hb9.mono hbb8.size)
    have HQB9 : Hid (RdQ w9 v8 QB) := HQB8.out.on hb9
    have HQA9 : Hid (RdQ w9 v6 QA) := HQA8.out.on hb9
    have HS9 : Hid (Shapes w9) := HS.out.on h1 hbb9
    have h19 := Nat.lt_of_lt_of_le h1 hbb9.size
    clear hb9 HS8 h18 HQA8 HQB8 HR4 HR5 HR6 HR7 HR8 hbb8
    cases bm9 with
    | false =>
      go_wp2_with fail
      go_ret
      exact ⟨rfl, hbb9⟩
    | true =>
      have HMA := hid_of2 (hm9 rfl)
      clear hm9
      go_wp2_with fail
      refine (may_any _ QB _ HS9 h19 HQB9).mono ?_
      rintro e w10 ⟨bm10, rfl, hm10, hb10⟩
      have hbb10 := hbb9.trans (hb10.mono hbb9.size)
      have HQB10 : Hid (RdQ w10 v8 QB) := HQB9.out.on hb10
      have HQA10 : Hid (RdQ w10 v6 QA) := HQA9.out.on hb10
      have HS10 : Hid (Shapes w10) := HS.out.on h1 hbb10
      have h110 := Nat.lt_of_lt_of_le h1 hbb10.size
      clear hb10 HS9 h19 HQA9 HQB9 hbb9
      cases bm10 with
      | false =>
        go_wp2_with fail
        go_ret
        exact ⟨rfl, hbb10⟩
      | true =>
        have HMB := hid_of2 (hm10 rfl)
        clear hm10
        go_wp2_with fail
        refine (mplay_any _ QA 400 _ HS10 h110 HQA10 HMA.out.ps HMA.out.len (by omega)).mono ?_
        intro e w11 hp11
        obtain ⟨hb11, fa11, fn11, fk11, c11, fs11, rfl, hr11, ho11⟩ := play_out hp11
        have hbb11 := hbb10.trans (hb11.mono hbb10.size)
        have HPO11 := hid_of2 ho11
        have HF11 := hid_of2 hr11
        have HQB11 : Hid (RdQ w11 v8 QB) := HQB10.out.on hb11
        have HS11 : Hid (Shapes w11) := HS.out.on h1 hbb11
        have h111 := Nat.lt_of_lt_of_le h1 hbb11.size
        clear hp11 ho11 hr11 hb11 HQA10 HQB10 HS10 h110 hbb10
        go_wp2_with fail
        refine (mplay_any _ QB 400 _ HS11 h111 HQB11 HMB.out.ps HMB.out.len (by omega)).mono ?_
        intro e w12 hp12
        obtain ⟨hb12, fa12, fn12, fk12, c12, fs12, rfl, hr12, ho12⟩ := play_out hp12
        have hbb12 := hbb11.trans (hb12.mono hbb11.size)
        have HPO12 := hid_of2 ho12
        have HF12 := hid_of2 hr12
        have HF11b : Hid (RdF w12 (.slice fa11 fn11 fk11) fs11) := HF11.out.on hb12
        have heq : playR QB 400 = playR QA 400 := by
          rw [playR_ok HMB.out.ok, playR_ok HMA.out.ok]
          have e1 := play_straight QA (hdQ 4 3 :: hd ++ [drQ id, wtQ 0]) enQ (by rw [← HQA.out]; simp) rfl (by
            intro q hq
            rcases List.mem_append.1 hq with hq | hq
            · exact plain_all HPL.out 4 3 q hq
            · simp at hq; rcases hq with rfl | rfl <;> exact ⟨by simp, by simp, by simp⟩) 400 (by simp; omega)
          have e2 := play_straight QB (hdQ 4 3 :: hd ++ [shQ id 0, wtQ 0]) enQ (by rw [← HQB.out]; simp) rfl (by
            intro q hq
            rcases List.mem_append.1 hq with hq | hq
            · exact plain_all HPL.out 4 3 q hq
            · simp at hq; rcases hq with rfl | rfl <;> exact ⟨by simp, by simp, by simp⟩) 400 (by simp; omega)
          rw [show (min (400 : Int) 400).toNat = 400 from rfl, e1, e2]
          have hA0 : QA.getD 0 pq0 = hdQ 4 3 := by rw [← HQA.out]; rfl
          have hB0 : QB.getD 0 pq0 = hdQ 4 3 := by rw [← HQB.out]; rfl
          rw [hA0, hB0]
          refine (told_away (hdQ 4 3) (hdQ 4 3 :: hd) id (fun q hq => ?_)).symm
          have hbk := book_of HMA.out.ok
          obtain ⟨j, hj, e⟩ := List.mem_iff_getElem.1 hq
          have hjl : j < QA.length := by rw [← HQA.out]; simp at hj ⊢; omega
          have := hbk.ok j hjl
          have e3 : QA.getD j pq0 = q := by
            rw [← HQA.out, List.getD_eq_getElem?_getD, show [hdQ 4 3] ++ hd ++ [drQ id, wtQ 0, enQ] = (hdQ 4 3 :: hd) ++ [drQ id, wtQ 0, enQ] from rfl, List.getElem?_append_left hj, List.getElem?_eq_getElem hj]
            exact e
          rw [e3] at this
          exact this
        have hP12 := HPO12.out
        rw [heq] at hP12
        obtain ⟨e1, e2⟩ := HPO11.out.same hP12
        subst e1 e2
        obtain ⟨g1, g2⟩ := HPO11.out.good
        have hcc : ((c12 : Int) == (c12 : Int)) = true := by simp
        clear hp12 ho12 hr12 hb12 heq hP12 HQB11 HS11 h111 hbb11
        go_wp2_with fail
        refine (number_any c12 _).mono ?_
        rintro e w13 ⟨rfl, rfl⟩
        go_wp2_with fail
        refine (number_any c12 _).mono ?_
        rintro e w14 ⟨rfl, rfl⟩
        go_wp2_with fail
        refine (sameFs_any _ _ fs12 _ (by omega) (frs_px g2) HF11b HF12).mono ?_
        rintro e w15 ⟨rfl, hb15⟩
        have hbb15 := hbb12.trans (hb15.mono hbb12.size)
        clear hb15
        go_wp2_with fail
        go_ret
        exact ⟨rfl, hbb15⟩
end Go.Proofs.YtbdgcomjhblnfaaDoor
