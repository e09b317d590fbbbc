/- Walk of the law TopLoop. -/
import Derived.Test.YtbdgcomjhblnfaaDoorTopAwayWJ
namespace Go.Proofs.YtbdgcomjhblnfaaDoor
open Go.RowKit Go.Maps

set_option maxHeartbeats 8000000 in
set_option maxRecDepth 100000 in
theorem topLoop_any (vh vb vt : Value) (hd bd tl : List Pq) (times : Int) (w : World) (HS : Hid (Shapes w)) (h1 : 0 < w.heap.size) (HRh : Hid (RdQ w vh hd)) (HRb : Hid (RdQ w vb bd)) (HRt : Hid (RdQ w vt tl)) :
    Calls Tryd.prog 4 #[vh, vb, vt, .int .i64 times] w fun e w' => e = .returned (.bool true) ∧ Below w.heap.size w w' := by
  obtain ⟨hda, hdc, hvh, _, _⟩ := HRh.out.shape
  obtain ⟨hdn, HNhd⟩ : ∃ n, Hid (hd.length = n) := ⟨_, (rfl : _ = _)⟩
  rw [HNhd.out] at hvh
  subst hvh
  obtain ⟨bda, bdc, hvb, _, _⟩ := HRb.out.shape
  obtain ⟨bdn, HNbd⟩ : ∃ n, Hid (bd.length = n) := ⟨_, (rfl : _ = _)⟩
  rw [HNbd.out] at hvb
  subst hvb
  obtain ⟨tla, tlc, hvt, _, _⟩ := HRt.out.shape
  obtain ⟨tln, HNtl⟩ : ∃ n, Hid (tl.length = n) := ⟨_, (rfl : _ = _)⟩
  rw [HNtl.out] at hvt
  subst hvt
  go_enter Tryd.func4, Tryd.ntmps4
  go_wp2_with fail
  refine (works_any _ HS h1).mono ?_
  rintro e w1 ⟨rfl, hb1⟩
  have HS1 : Hid (Shapes w1) := HS.out.on h1 hb1
  have h11 := Nat.lt_of_lt_of_le h1 hb1.size
  by_cases gq0 : (20 : Int) < (hdn : Int)
  · go_wp2_with fail
    go_ret
    exact ⟨rfl, hb1⟩
  by_cases gq1 : (6 : Int) < (bdn : Int)
  · go_wp2_with fail
    go_ret
    exact ⟨rfl, hb1⟩
  by_cases gq2 : (6 : Int) < (tln : Int)
  · go_wp2_with fail
    go_ret
    exact ⟨rfl, hb1⟩
  have HRh1 : Hid (RdQ w1 (.slice hda hdn hdc) hd) := HRh.out.on hb1
  go_wp2_with fail
  refine (plain_any _ hd _ HRh1 (by rw [HNhd.out]; omega)).mono ?_
  rintro e w2 ⟨bl2, rfl, hpl2, hb2⟩
  have hbb2 := hb1.trans (hb2.mono hb1.size)
  cases bl2 with
  | false =>
    go_wp2_with fail
    go_ret
    exact ⟨rfl, hbb2⟩
  | true =>
    have HPH := hid_of2 (hpl2 rfl)
    have HRb2 : Hid (RdQ w2 (.slice bda bdn bdc) bd) := HRb.out.on hbb2
    clear hpl2 hb2 HS1 h11 HRh1
    go_wp2_with fail
    refine (plain_any _ bd _ HRb2 (by rw [HNbd.out]; omega)).mono ?_
    rintro e w3 ⟨bl3, rfl, hpl3, hb3⟩
    have hbb3 := hbb2.trans (hb3.mono hbb2.size)
    cases bl3 with
    | false =>
      go_wp2_with fail
      go_ret
      exact ⟨rfl, hbb3⟩
    | true =>
      have HPB := hid_of2 (hpl3 rfl)
      have HRt3 : Hid (RdQ w3 (.slice tla tln tlc) tl) := HRt.out.on hbb3
      clear hpl3 hb3 HRb2 hbb2 hb1
      go_wp2_with fail
      refine (plain_any _ tl _ HRt3 (by rw [HNtl.out]; omega)).mono ?_
      rintro e w4 ⟨bl4, rfl, hpl4, hb4⟩
      have hbb4 := hbb3.trans (hb4.mono hbb3.size)
      cases bl4 with
      | false =>
        go_wp2_with fail
        go_ret
        exact ⟨rfl, hbb4⟩
      | true =>
        have HPT := hid_of2 (hpl4 rfl)
        clear hpl4 hb4 HRt3 hbb3
        by_cases gq0 : times < 0
        · go_wp2_with fail
          go_ret
          exact ⟨rfl, hbb4⟩
        by_cases gq1 : 4 < times
        · go_wp2_with fail
          go_ret
          exact ⟨rfl, hbb4⟩
        obtain ⟨tm, rfl⟩ : ∃ t : Nat, times = (t : Int) := ⟨_, (Int.toNat_of_nonneg (by omega)).symm⟩
        have hlh : hd.length ≤ 20 := by rw [HNhd.out]; omega
        have hlb : bd.length ≤ 6 := by rw [HNbd.out]; omega
        have hlt : tl.length ≤ 6 := by rw [HNtl.out]; omega
        have htm : tm ≤ 4 := by omega
        have hbx4 := hbb4.alloc hbb4.size (.cells (qrCells (litQ [hdQ 3 2])).toArray 37)
        obtain ⟨v5, w5, hr5, A5⟩ := sh_app_rd (sh_lit hbb4 [hdQ 3 2] (by simp) (by simp)) hbx4 HRh.out (by simp; omega)
        obtain ⟨v6, w6, hr6, A6⟩ := sh_app_sh (sh_nil w w5) A5.bel A5.row (by simp; omega)
        rw [List.nil_append] at A6
        obtain ⟨a6, s6⟩ := A6.sep A5.row (sep_nil v5)
        obtain ⟨v7, w7, hr7, A7⟩ := sh_app_lit a6 A6.bel [lpQ tm] (by intro q hq; simp at hq; subst hq; rfl) (by simp; omega)
        obtain ⟨b7, s7⟩ := A7.sep (A6.row.on (alloc_bel _ _)) s6.symm
        obtain ⟨v8, w8, hr8, A8⟩ := sh_app_rd A7.row A7.bel HRb.out (by simp; omega)
        obtain ⟨b8, s8⟩ := A8.sep b7 s7
        obtain ⟨v9, w9, hr9, A9⟩ := sh_app_lit A8.row A8.bel [nxQ] (by intro q hq; simp at hq; subst hq; rfl) (by simp; omega)
        obtain ⟨b9, s9⟩ := A9.sep (b8.on (alloc_bel _ _)) s8
        have HR5 := hid_of2 hr5
        have HR6 := hid_of2 hr6
        have HR7 := hid_of2 hr7
        have HR8 := hid_of2 hr8
        have HR9 := hid_of2 hr9
        obtain ⟨LA, HLA⟩ : ∃ Q, Hid ([hdQ 3 2] ++ hd ++ [lpQ tm] ++ bd ++ [nxQ] = Q) := ⟨_, (rfl : _ = _)⟩
        have ha9 := A9.row
        rw [HLA.out] at ha9
        have HA9 := hid_of2 ha9
        have HB9 := hid_of2 b9
        have HS9' : Hid (Sep v6 v9) := s9
        have hbb9 := A9.bel
        have hlA : LA.length ≤ 30 := by rw [← HLA.out]; simp; omega
        clear A5 A6 A7 A8 A9 a6 s6 b7 s7 b8 s8 b9 s9 ha9 hr5 hr6 hr7 hr8 hr9 hbx4 hbb4
        go_wp2_with (at_builtin; first | (refine Lib.wpList_append_run _ rfl _ _ _ _ rfl _ _ rfl rfl _ _ HR5.out ?_) | (refine Lib.wpList_append_run _ rfl _ _ _ _ rfl _ _ rfl rfl _ _ HR6.out ?_) | (refine Lib.wpList_append_run _ rfl _ _ _ _ rfl _ _ rfl rfl _ _ HR7.out ?_) | (refine Lib.wpList_append_run _ rfl _ _ _ _ rfl _ _ rfl rfl _ _ HR8.out ?_) | (refine Lib.wpList_append_run _ rfl _ _ _ _ rfl _ _ rfl rfl _ _ HR9.out ?_))
        go_loopw [11, 12] (fun vb i wr => ∃ k : Nat, k ≤ tm ∧ i = .int .i64 k ∧ Hid (ShQ w wr vb ([hdQ 3 2] ++ hd ++ repQ bd k)) ∧ Hid (ShQ w wr v9 LA) ∧ Hid (Sep vb v9) ∧ Below w.heap.size w wr) (fun _ i _ => tm - (intOf i).toNat)
        case atStart => exact ⟨0, by omega, rfl, by unfold Hid; simpa [repQ] using HB9.out, HA9, HS9', hbb9⟩
        case round =>
          clear HA9 HB9 HS9' hbb9 HR5 HR6 HR7 HR8 HR9
          rename_i vbr _
          obtain ⟨k, hk, rfl, HBR, HAR, HSR, hbr⟩ := hrel
          have hrl : (repQ bd k).length ≤ 24 := by
            rw [repQ_len]
            have := Nat.mul_le_mul (show k ≤ 4 by omega) hlb
            omega
          by_cases hltk : k < tm
          · have hki : (k : Int) < (tm : Int) := by omega
            obtain ⟨v10, w10, hr10, A10⟩ := sh_app_rd HBR.out hbr HRb.out (by simp; omega)
            have HR10 := hid_of2 hr10
            obtain ⟨a10, s10⟩ := A10.sep HAR.out HSR.out.symm
            have HB10 : Hid (ShQ w w10 v10 ([hdQ 3 2] ++ hd ++ repQ bd (k + 1))) := by
              unfold Hid
              have := A10.row
              rw [List.append_assoc, ← repQ_snoc] at this
              exact this
            have HA10 := hid_of2 a10
            have HS10 : Hid (Sep v10 v9) := s10.symm
            have hbb10 := A10.bel
            clear A10 a10 s10 hr10 HBR HAR HSR
            go_wp2_with (at_builtin; refine Lib.wpList_append_run _ rfl _ _ _ _ rfl _ _ rfl rfl _ _ HR10.out ?_)
            go_roundw
            case rel => exact ⟨k + 1, by omega, by go_num, HB10, HA10, HS10, hbb10⟩
            case measure => simp [intOf]; omega
          · obtain rfl : k = tm := by omega
            have hki : ¬ (k : Int) < (k : Int) := by omega
            obtain ⟨v11, w11, hr11, A11⟩ := sh_app_rd HAR.out hbr HRt.out (by omega)
            obtain ⟨b11, s11⟩ := A11.sep HBR.out HSR.out
            obtain ⟨v12, w12, hr12, A12⟩ := sh_app_lit A11.row A11.bel [enQ] (by intro q hq; simp at hq; subst hq; rfl) (by simp; omega)
            obtain ⟨b12, s12⟩ := A12.sep (b11.on (alloc_bel _ _)) s11
            obtain ⟨v13, w13, hr13, A13⟩ := sh_app_rd b12 A12.bel HRt.out (by simp; omega)
            obtain ⟨a13, s13⟩ := A13.sep A12.row s12.symm
            obtain ⟨v14, w14, hr14, A14⟩ := sh_app_lit A13.row A13.bel [enQ] (by intro q hq; simp at hq; subst hq; rfl) (by simp; omega)
            obtain ⟨a14, s14⟩ := A14.sep (a13.on (alloc_bel _ _)) s13
            have HR11 := hid_of2 hr11
            have HR12 := hid_of2 hr12
            have HR13 := hid_of2 hr13
            have HR14 := hid_of2 hr14
            obtain ⟨QA, HQA⟩ : ∃ Q, Hid (LA ++ tl ++ [enQ] = Q) := ⟨_, (rfl : _ = _)⟩
            obtain ⟨QB, HQB⟩ : ∃ Q, Hid ([hdQ 3 2] ++ hd ++ repQ bd k ++ tl ++ [enQ] = Q) := ⟨_, (rfl : _ = _)⟩
            have b14 := A14.row
            rw [HQA.out] at a14
            rw [HQB.out] at b14
            have hbb14 := A14.bel
            have HQA14 : Hid (RdQ w14 v12 QA) := a14.rd hbb14
            have HQB14 : Hid (RdQ w14 v14 QB) := b14.rd hbb14
            have HS14 : Hid (Shapes w14) := HS.out.on h1 hbb14
            have h114 := Nat.lt_of_lt_of_le h1 hbb14.size
            clear A11 b11 s11 A12 b12 s12 A13 a13 s13 A14 a14 b14 s14 hr11 hr12 hr13 hr14 HBR HAR HSR hbr
            go_wp2_with (at_builtin; first | (refine Lib.wpList_append_run _ rfl _ _ _ _ rfl _ _ rfl rfl _ _ HR11.out ?_) | (refine Lib.wpList_append_run _ rfl _ _ _ _ rfl _ _ rfl rfl _ _ HR12.out ?_) | (refine Lib.wpList_append_run _ rfl _ _ _ _ rfl _ _ rfl rfl _ _ HR13.out ?_) | (refine Lib.wpList_append_run _ rfl _ _ _ _ rfl _ _ rfl rfl _ _ HR14.out ?_))
            refine (may_any _ QA _ HS14 h114 HQA14).mono ?_
            rintro e w15 ⟨bm15, rfl, hm15, hb15⟩
            have hbb15 := hbb14.trans (hb15.mono hbb14.size)
            have HQB15 : Hid (RdQ w15 v14 QB) := HQB14.out.on hb15
            have HQA15 : Hid (RdQ w15 v12 QA) := HQA14.out.on hb15
            have HS15 : Hid (Shapes w15) := HS.out.on h1 hbb15
            have h115 := Nat.lt_of_lt_of_le h1 hbb15.size
            clear hb15 HS14 h114 HQA14 HQB14 HR11 HR12 HR13 HR14 hbb14
            cases bm15 with
            | false =>
              go_wp2_with fail
              go_ret
              exact ⟨rfl, hbb15⟩
            | true =>
              have HMA := hid_of2 (hm15 rfl)
              clear hm15
              go_wp2_with fail
              refine (may_any _ QB _ HS15 h115 HQB15).mono ?_
              rintro e w16 ⟨bm16, rfl, hm16, hb16⟩
              have hbb16 := hbb15.trans (hb16.mono hbb15.size)
              have HQB16 : Hid (RdQ w16 v14 QB) := HQB15.out.on hb16
              have HQA16 : Hid (RdQ w16 v12 QA) := HQA15.out.on hb16
              have HS16 : Hid (Shapes w16) := HS.out.on h1 hbb16
              have h116 := Nat.lt_of_lt_of_le h1 hbb16.size
              clear hb16 HS15 h115 HQA15 HQB15 hbb15
              cases bm16 with
              | false =>
                go_wp2_with fail
                go_ret
                exact ⟨rfl, hbb16⟩
              | true =>
                have HMB := hid_of2 (hm16 rfl)
                clear hm16
                go_wp2_with fail
                refine (mplay_any _ QA 400 _ HS16 h116 HQA16 HMA.out.ps HMA.out.len (by omega)).mono ?_
                intro e w17 hp17
                obtain ⟨hb17, fa17, fn17, fk17, c17, fs17, rfl, hr17, ho17⟩ := play_out hp17
                have hbb17 := hbb16.trans (hb17.mono hbb16.size)
                have HPO17 := hid_of2 ho17
                have HF17 := hid_of2 hr17
                have HQB17 : Hid (RdQ w17 v14 QB) := HQB16.out.on hb17
                have HS17 : Hid (Shapes w17) := HS.out.on h1 hbb17
                have h117 := Nat.lt_of_lt_of_le h1 hbb17.size
                clear hp17 ho17 hr17 hb17 HQA16 HQB16 HS16 h116 hbb16
                go_wp2_with fail
                refine (mplay_any _ QB 400 _ HS17 h117 HQB17 HMB.out.ps HMB.out.len (by omega)).mono ?_
                intro e w18 hp18
                obtain ⟨hb18, fa18, fn18, fk18, c18, fs18, rfl, hr18, ho18⟩ := play_out hp18
                have hbb18 := hbb17.trans (hb18.mono hbb17.size)
                have HPO18 := hid_of2 ho18
                have HF18 := hid_of2 hr18
                have HF17b : Hid (RdF w18 (.slice fa17 fn17 fk17) fs17) := HF17.out.on hb18
                have heq : playR QB 400 = playR QA 400 := by
                  rw [playR_ok HMB.out.ok, playR_ok HMA.out.ok, show (min (400 : Int) 400).toNat = 400 from rfl]
                  have hpl : ∀ {l : List Pq}, (∀ q ∈ l, PlainQ q ∧ q.kind ≠ 1) → ∀ q ∈ l, PlainQ q := fun h q hq => (h q hq).1
                  have hbn : (k * (bd.length + 1) + 1) ≤ 29 := by
                    have := Nat.mul_le_mul (show k ≤ 4 by omega) (show bd.length + 1 ≤ 7 by omega)
                    omega
                  have := loop_told (hdQ 3 2 :: hd) bd tl (lpQ k) nxQ enQ k rfl rfl rfl rfl (plain_all HPH.out 3 2) (hpl HPB.out) (hpl HPT.out) (by simp) 400 (by simp only [List.length_cons]; omega)
                  rw [← HQA.out, ← HQB.out, ← HLA.out]
                  simp only [List.append_assoc, List.cons_append, List.nil_append] at this ⊢
                  exact this.symm
                have hP18 := HPO18.out
                rw [heq] at hP18
                obtain ⟨e1, e2⟩ := HPO17.out.same hP18
                subst e1 e2
                obtain ⟨g1, g2⟩ := HPO17.out.good
                have hcc : ((c18 : Int) == (c18 : Int)) = true := by simp
                clear hp18 ho18 hr18 hb18 heq hP18 HQB17 HS17 h117 hbb17
                go_wp2_with fail
                refine (number_any c18 _).mono ?_
                rintro e w19 ⟨rfl, rfl⟩
                go_wp2_with fail
                refine (number_any c18 _).mono ?_
                rintro e w20 ⟨rfl, rfl⟩
                go_wp2_with fail
                refine (sameFs_any _ _ fs18 _ (by omega) (frs_px g2) HF17b HF18).mono ?_
                rintro e w21 ⟨rfl, hb21⟩
                have hbb21 := hbb18.trans (hb21.mono hbb18.size)
                clear hb21
                go_wp2_with fail
                go_ret
                exact ⟨rfl, hbb21⟩
end Go.Proofs.YtbdgcomjhblnfaaDoor
