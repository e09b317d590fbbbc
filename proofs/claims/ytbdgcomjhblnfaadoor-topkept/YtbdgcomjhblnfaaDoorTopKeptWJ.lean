/- Walk of the law TopKept. -/
import Derived.Test.YtbdgcomjhblnfaaDoorM10
import Derived.Test.YtbdgcomjhblnfaaDoorSobAJ
namespace Go.Proofs.YtbdgcomjhblnfaaDoor
open Go.RowKit Go.Maps

theorem step_pl {qs : List Pq} {s s' : Ms} {q : Pq} (hX : qs.getD s.pc pq0 = q) (hq : PlainQ q) (h : stepM qs s = .inl s') :
    s'.pc = s.pc + 1 ∧ (q.kind ≠ 14 → s'.kept = s.kept) ∧ (q.kind = 14 → s'.kept = s.obs ∧ s'.obs = s.obs) ∧ (q.kind = 15 → s'.obs = s.kept) := by
  have hd : ¬ (qs.getD s.pc pq0).kind = 16 := by rw [hX]; exact hq.n16
  rw [stepM_not hd, hX] at h
  cases hr : doM qs s q with
  | inr c => rw [hr] at h; cases h
  | inl t =>
    rw [hr] at h
    obtain rfl := Sum.inl.inj h
    unfold doM at hr
    split at hr
    · rename_i hk; obtain rfl := Sum.inl.inj hr; exact ⟨rfl, fun _ => rfl, fun h => by omega, fun h => by omega⟩
    split at hr
    · rename_i hk; obtain rfl := Sum.inl.inj hr; exact ⟨rfl, fun _ => rfl, fun h => by omega, fun h => by omega⟩
    split at hr
    · split at hr
      · cases hr
      · rename_i hk _; obtain rfl := Sum.inl.inj hr; exact ⟨rfl, fun _ => rfl, fun h => by omega, fun h => by omega⟩
    split at hr
    · rename_i hk; exact absurd hk hq.n12
    split at hr
    · rename_i hk; exact absurd hk hq.n13
    split at hr
    · rename_i hk; obtain rfl := Sum.inl.inj hr; exact ⟨rfl, fun h => absurd hk h, fun _ => ⟨rfl, rfl⟩, fun h => by omega⟩
    split at hr
    · rename_i hk; obtain rfl := Sum.inl.inj hr; exact ⟨rfl, fun _ => rfl, fun h => by omega, fun _ => rfl⟩
    rename_i hk14 hk15
    split at hr
    · obtain rfl := Sum.inl.inj hr; exact ⟨rfl, fun _ => rfl, fun h => absurd h hk14, fun h => absurd h hk15⟩
    · cases hr
theorem getD_l (a b : List Pq) {k : Nat} (h : k < a.length) : (a ++ b).getD k pq0 = a.getD k pq0 := by
  rw [List.getD_eq_getElem?_getD, List.getElem?_append_left h, List.getD_eq_getElem?_getD]
theorem getD_r (a b : List Pq) (k : Nat) : (a ++ b).getD (a.length + k) pq0 = b.getD k pq0 := by
  rw [List.getD_eq_getElem?_getD, List.getElem?_append_right (by omega), Nat.add_sub_cancel_left, List.getD_eq_getElem?_getD]
/-- rows of objects that are none of a machine's stay -/
theorem OwnOb.foot {w w' : World} {B : Nat} {v : Value} {qs : List (Po × Value)} {F F' : List Nat} (h : OwnOb w B v qs) (hf : Foot F F' w w') (hF : ∀ g ∈ F, g < B) : OwnOb w' B v qs := by
  have key : ∀ {e : TypeId} {s n : Nat} {u : Value} {xs : List Value}, w.ownsRow B e s u n xs → w'.ownsRow B e s u n xs := by
    intro e s n u xs h
    refine ⟨h.1, ?_⟩
    rcases h.2 with h | ⟨g, cap, cur, h1, h2, h3, h4⟩
    · exact .inl h
    · exact .inr ⟨g, cap, cur, h1, h2, by rw [hf.block g (lt_of_some h3) (fun hm => by have := hF g hm; omega)]; exact h3, h4⟩
  exact ⟨key h.1, fun q hq => key (h.2 q hq)⟩
/-- the book of this law -/
structure KeptQ (qs : List Pq) (n m : Nat) : Prop where
  pre : ∀ k, k < n → PlainQ (qs.getD k pq0)
  save : qs.getD n pq0 = svQ
  body : ∀ j, j < m → PlainQ (qs.getD (n + 1 + j) pq0) ∧ (qs.getD (n + 1 + j) pq0).kind ≠ 14
  seek : qs.getD (n + 1 + m) pq0 = skQ
  last : qs.getD (n + 2 + m) pq0 = enQ
theorem keptQ_of (hd bd : List Pq) (h1 : ∀ q ∈ hd, PlainQ q ∧ q.kind ≠ 1) (h2 : ∀ q ∈ bd, PlainQ q ∧ q.kind ≠ 1) (h3 : ∀ j, j < bd.length → (bd.getD j pq0).kind ≠ 14) : KeptQ ([hdQ 3 2] ++ hd ++ [svQ] ++ bd ++ [skQ, enQ]) ([hdQ 3 2] ++ hd).length bd.length := by
  have e : [hdQ 3 2] ++ hd ++ [svQ] ++ bd ++ [skQ, enQ] = ([hdQ 3 2] ++ hd) ++ (svQ :: (bd ++ [skQ, enQ])) := by simp
  have e2 : [hdQ 3 2] ++ hd ++ [svQ] ++ bd ++ [skQ, enQ] = ([hdQ 3 2] ++ hd ++ [svQ] ++ bd) ++ [skQ, enQ] := by simp
  have e3 : [hdQ 3 2] ++ hd ++ [svQ] ++ bd ++ [skQ, enQ] = ([hdQ 3 2] ++ hd ++ [svQ]) ++ (bd ++ [skQ, enQ]) := by simp
  have l1 : ([hdQ 3 2] ++ hd ++ [svQ]).length = ([hdQ 3 2] ++ hd).length + 1 := by simp
  have l2 : ([hdQ 3 2] ++ hd ++ [svQ] ++ bd).length = ([hdQ 3 2] ++ hd).length + 1 + bd.length := by simp; omega
  refine ⟨fun k hk => ?_, ?_, fun j hj => ?_, ?_, ?_⟩
  · rw [e, getD_l _ _ hk]
    have hm := mem_pq hk
    rcases List.mem_cons.1 (show ([hdQ 3 2] ++ hd).getD k pq0 ∈ hdQ 3 2 :: hd from hm) with h | h
    · rw [h]; exact ⟨by simp, by simp, by simp⟩
    · exact (h1 _ h).1
  · rw [e, ← Nat.add_zero ([hdQ 3 2] ++ hd).length, getD_r]; rfl
  · rw [e3, ← l1, getD_r, getD_l _ _ hj]
    exact ⟨(h2 _ (mem_pq hj)).1, h3 j hj⟩
  · rw [e2, ← l2, ← Nat.add_zero ([hdQ 3 2] ++ hd ++ [svQ] ++ bd).length, getD_r]; rfl
  · rw [e2, show ([hdQ 3 2] ++ hd).length + 2 + bd.length = ([hdQ 3 2] ++ hd ++ [svQ] ++ bd).length + 1 by rw [l2]; omega, getD_r]; rfl

set_option maxHeartbeats 16000000 in
set_option maxRecDepth 100000 in
theorem topKept_any (vh vb : Value) (hd bd : List Pq) (w : World) (HS : Hid (Shapes w)) (h1 : 0 < w.heap.size) (HRh : Hid (RdQ w vh hd)) (HRb : Hid (RdQ w vb bd)) :
    Calls Tryd.prog 5 #[vh, vb] w fun e w' => e = .returned (.bool true) ∧ Below w.heap.size w w' := by
  obtain ⟨hda, hdc, hvh, _, _⟩ := HRh.out.shape
  obtain ⟨hdn, HNhd⟩ : ∃ n, Hid (hd.length = n) := ⟨_, (rfl : _ = _)⟩
  rw [HNhd.out] at hvh
  subst hvh
  obtain ⟨bda, bdc, hvb, _, _⟩ := HRb.out.shape
  obtain ⟨bdn, HNbd⟩ : ∃ n, Hid (bd.length = n) := ⟨_, (rfl : _ = _)⟩
  rw [HNbd.out] at hvb
  subst hvb
  go_enter Tryd.func5, Tryd.ntmps5
  go_wp2_with fail
  refine (works_any _ HS h1).mono ?_
  rintro e w1 ⟨rfl, hb1⟩
  have HS1 : Hid (Shapes w1) := HS.out.on h1 hb1
  have h11 := Nat.lt_of_lt_of_le h1 hb1.size
  by_cases gq0 : (20 : Int) < (hdn : Int)
  · go_wp2_with fail
    go_ret
    exact ⟨rfl, hb1⟩
  by_cases gq1 : (20 : Int) < (bdn : Int)
  · go_wp2_with fail
    go_ret
    exact ⟨rfl, hb1⟩
  have HRh1 : Hid (RdQ w1 (.slice hda hdn hdc) hd) := HRh.out.on hb1
  go_wp2_with fail
  refine (plain_any _ hd _ HRh1 (by rw [HNhd.out]; omega)).mono ?_
  rintro e w2 ⟨bl2, rfl, hpl2, hb2⟩
  have hbb2 := hb1.trans (hb2.mono hb1.size)
  cases bl2 with
  | false =>
    go_wp2_with fail
    go_ret
    exact ⟨rfl, hbb2⟩
  | true =>
    have HPH := hid_of2 (hpl2 rfl)
    have HRb2 : Hid (RdQ w2 (.slice bda bdn bdc) bd) := HRb.out.on hbb2
    clear hpl2 hb2 HS1 h11 HRh1
    go_wp2_with fail
    refine (plain_any _ bd _ HRb2 (by rw [HNbd.out]; omega)).mono ?_
    rintro e w3 ⟨bl3, rfl, hpl3, hb3⟩
    have hbb3 := hbb2.trans (hb3.mono hbb2.size)
    cases bl3 with
    | false =>
      go_wp2_with fail
      go_ret
      exact ⟨rfl, hbb3⟩
    | true =>
      have HPB := hid_of2 (hpl3 rfl)
      clear hpl3 hb3 HRb2 hbb2 hb1
      go_wp2_with fail
      go_loopw [6] (fun i wr => ∃ k : Nat, k ≤ bdn ∧ i = .int .i64 k ∧ Hid (∀ j, j < k → (bd.getD j pq0).kind ≠ 14) ∧ Below w.heap.size w wr) (fun i _ => bdn - (intOf i).toNat)
      case atStart => exact ⟨0, by omega, rfl, (by intro j hj; omega), hbb3⟩
      case round =>
        clear hbb3
        obtain ⟨k, hk, rfl, HK14, hbb3⟩ := hrel
        by_cases hltk : k < bdn
        · have hki : (k : Int) < (bdn : Int) := by omega
          have hki0 : (0 : Int) ≤ (k : Int) := by omega
          obtain ⟨q, HX⟩ : ∃ q, Hid (bd.getD k pq0 = q) := ⟨_, (rfl : _ = _)⟩
          obtain ⟨g, o, _, _, _, rfl, hg, OC, _, _⟩ := (HRb.out.on hbb3).at hltk HX
          have c0 := OC.c0
          clear OC
          by_cases k14 : q.kind = 14
          · have b14 : (q.kind == 14) = true := by simpa using k14
            clear k14
            go_wp2_with fail
            go_ret
            exact ⟨rfl, hbb3⟩
          · have b14 : (q.kind == 14) = false := by simpa using k14
            have HK2 : Hid (∀ j, j < k + 1 → (bd.getD j pq0).kind ≠ 14) := by
              intro j hj
              rcases Nat.eq_or_lt_of_le (Nat.le_of_lt_succ hj) with rfl | hj
              · rw [HX.out]; exact k14
              · exact HK14.out j hj
            clear k14
            go_wp2_with fail
            go_roundw
            case rel => exact ⟨k + 1, by omega, by go_num, HK2, hbb3⟩
            case measure => simp [intOf]; omega
        obtain rfl : bdn = k := by omega
        have hlh : hd.length ≤ 20 := by rw [HNhd.out]; omega
        have hlb : bd.length ≤ 20 := by rw [HNbd.out]; omega
        have hbx4 := hbb3.alloc hbb3.size (.cells (qrCells (litQ [hdQ 3 2])).toArray 37)
        obtain ⟨v5, w5, hr5, A5⟩ := sh_app_rd (sh_lit hbb3 [hdQ 3 2] (by simp) (by simp)) hbx4 HRh.out (by simp; omega)
        obtain ⟨a5, k5, hv5, _⟩ := A5.row.len
        obtain ⟨n5, HN5⟩ : ∃ n, Hid (([hdQ 3 2] ++ hd).length = n) := ⟨_, (rfl : _ = _)⟩
        rw [HN5.out] at hv5
        subst hv5
        have hn5 : n5 ≤ 21 := by rw [← HN5.out]; simp; omega
        obtain ⟨v6, w6, hr6, A6⟩ := sh_app_lit A5.row A5.bel [svQ] (by intro q hq; simp at hq; subst hq; rfl) (by simp; omega)
        obtain ⟨v7, w7, hr7, A7⟩ := sh_app_rd A6.row A6.bel HRb.out (by simp; omega)
        obtain ⟨v8, w8, hr8, A8⟩ := sh_app_lit A7.row A7.bel [skQ, enQ] (by intro q hq; simp at hq; rcases hq with rfl | rfl <;> rfl) (by simp; omega)
        have HR5 := hid_of2 hr5
        have HR6 := hid_of2 hr6
        have HR7 := hid_of2 hr7
        have HR8 := hid_of2 hr8
        have HKQ0 := keptQ_of hd bd HPH.out HPB.out (fun j hj => HK14.out j (by rw [← HNbd.out]; exact hj))
        rw [HN5.out, HNbd.out] at HKQ0
        obtain ⟨QS, HQS⟩ : ∃ Q, Hid ([hdQ 3 2] ++ hd ++ [svQ] ++ bd ++ [skQ, enQ] = Q) := ⟨_, (rfl : _ = _)⟩
        have a8 := A8.row
        rw [HQS.out] at a8 HKQ0
        have HKQ := hid_of2 HKQ0
        have hbb8 := A8.bel
        have HQ8 : Hid (RdQ w8 v8 QS) := a8.rd hbb8
        have HS8 : Hid (Shapes w8) := HS.out.on h1 hbb8
        have h18 := Nat.lt_of_lt_of_le h1 hbb8.size
        clear A5 A6 A7 A8 a8 HKQ0 hr5 hr6 hr7 hr8 hbx4 hbb3
        go_wp2_with (at_builtin; first | (refine Lib.wpList_append_run _ rfl _ _ _ _ rfl _ _ rfl rfl _ _ HR5.out ?_) | (refine Lib.wpList_append_run _ rfl _ _ _ _ rfl _ _ rfl rfl _ _ HR6.out ?_) | (refine Lib.wpList_append_run _ rfl _ _ _ _ rfl _ _ rfl rfl _ _ HR7.out ?_) | (refine Lib.wpList_append_run _ rfl _ _ _ _ rfl _ _ rfl rfl _ _ HR8.out ?_))
        refine (may_any _ QS _ HS8 h18 HQ8).mono ?_
        rintro e w9 ⟨bm9, rfl, hm9, hb9⟩
        have hbb9 := hbb8.trans (hb9.mono hbb8.size)
        have HQ9 : Hid (RdQ w9 v8 QS) := HQ8.out.on hb9
        have HS9 : Hid (Shapes w9) := HS.out.on h1 hbb9
        have h19 := Nat.lt_of_lt_of_le h1 hbb9.size
        clear hb9 HS8 h18 HQ8 HR5 HR6 HR7 HR8 hbb8
        cases bm9 with
        | false =>
          go_wp2_with fail
          go_ret
          exact ⟨rfl, hbb9⟩
        | true =>
          have HMY := hid_of2 (hm9 rfl)
          clear hm9
          have HBK : Hid (Book QS) := book_of HMY.out.ok
          go_wp2_with fail
          refine (mnew_any _ QS _ HS9 h19 HQ9 HMY.out.ps HMY.out.len).mono ?_
          rintro e w10 ⟨hb10, hh⟩
          rcases hh with ⟨hc, _⟩ | ⟨_, b, F, rfl, hM, hlF⟩
          · exact absurd HMY.out.ok hc
          have hbb10 := hbb9.trans (hb10.mono hbb9.size)
          have HM10 := hid_of2 hM
          have HLF10 := hid_of2 hlF
          have HB9 : Hid (w.heap.size ≤ w9.heap.size) := hbb9.size
          have HW0 : Hid (Way QS ms0) := way0 HBK.out
          clear hM hlF hb10 HS9 HQ9 h19
          go_wp2_with fail
          go_loopw [11] (fun i wr => ∃ (k : Nat) (st : Ms) (F' : List Nat), k ≤ n5 ∧ i = .int .i64 k ∧ Hid (st.pc = k) ∧ Hid (Mac wr w9.heap.size b F' QS st) ∧ Hid (Way QS st) ∧ Hid (∀ g ∈ F', g < wr.heap.size) ∧ Below w.heap.size w wr) (fun i _ => n5 - (intOf i).toNat)
          case atStart => exact ⟨0, ms0, F, by omega, rfl, rfl, HM10, HW0, HLF10, hbb10⟩
          case round =>
            clear HM10 HLF10 hbb10
            obtain ⟨k1, st, F', hk1, rfl, HPC, HMS, HWS, HLF, hbr⟩ := hrel
            by_cases hltn : k1 < n5
            · have hki1 : (k1 : Int) < (n5 : Int) := by omega
              go_wp2_with fail
              refine (mstep_any _ b F' QS st _ HMS HBK HWS).mono ?_
              rintro e w11 ⟨F2, rfl, hm11, hf11⟩
              have hbb11 : Below w.heap.size w w11 := hbr.trans (hf11.belowB (fun g hg => Nat.le_trans HB9.out (HMS.out.low g hg)) hbr.size)
              have HL11 : Hid (∀ g ∈ F2, g < w11.heap.size) := hf11.lt HLF.out
              obtain ⟨r, HRR⟩ : ∃ r, Hid (stepM QS st = r) := ⟨_, (rfl : _ = _)⟩
              rw [HRR.out] at hm11 ⊢
              have HM11 := hid_of2 hm11
              clear hm11 hf11
              cases r with
              | inr c =>
                have HC0 := hid_of2 (stepM_err HRR.out)
                unfold numM
                rw [errV_pos HC0.out]
                go_wp2_with fail
                go_ret
                exact ⟨rfl, hbb11⟩
              | inl s' =>
                have HM12 : Hid (Mac w11 w9.heap.size b F2 QS s') := HM11.out
                have HW12 : Hid (Way QS s') := stepM_way HBK.out HWS.out HRR.out
                have HPC2 : Hid (s'.pc = k1 + 1) := by
                  have hp := HKQ.out.pre k1 hltn
                  have := (step_pl (q := QS.getD k1 pq0) (by rw [HPC.out]) hp HRR.out).1
                  rw [HPC.out] at this
                  exact this
                unfold numM
                rw [show errV 0 = Value.nilIface from rfl]
                clear HM11 HMS HWS HLF hbr
                go_wp2_with fail
                go_roundw
                case rel => exact ⟨k1 + 1, s', F2, by omega, by go_num, HPC2, HM12, HW12, HL11, hbb11⟩
                case measure => simp [intOf]; omega
            obtain rfl : k1 = n5 := by omega
            have hki1 : ¬ (k1 : Int) < (k1 : Int) := by omega
            go_wp2_with fail
            refine (mobj_any _ b F' QS st _ HMS HWS.out.obs).mono ?_
            rintro e w12 ⟨vw, ow, rfl, how, hof, hb12⟩
            have hbb12 := hbr.trans (hb12.mono hbr.size)
            obtain ⟨ob0, HOB0⟩ : ∃ o, Hid (st.obs = o) := ⟨_, (rfl : _ = _)⟩
            rw [HOB0.out] at hof
            have HOW := hide_ob how
            have HOF := hid_of2 hof
            have HFO : Hid (FineO ob0) := by rw [← HOB0.out]; exact HWS.out.obs
            have HM12 : Hid (Mac w12 w9.heap.size b F' QS st) := HMS.out.on hb12
            have HL12 : Hid (∀ g ∈ F', g < w12.heap.size) := fun g hg => Nat.lt_of_lt_of_le (HLF.out g hg) hb12.size
            obtain ⟨BW, HBW⟩ : ∃ BW, Hid (wr.heap.size = BW) := ⟨_, (rfl : _ = _)⟩
            rw [HBW.out] at HOW HLF
            obtain ⟨F5, HF5⟩ : ∃ F5, Hid (F' = F5) := ⟨_, (rfl : _ = _)⟩
            rw [HF5.out] at HLF HM12 HL12
            clear how hof hb12 hbr HMS
            go_wp2_with fail
            go_loopw [13] (fun i wr => ∃ (z : Nat) (st' : Ms) (F' : List Nat), z ≤ z + 0 ∧ z ≤ bdn + 2 ∧ i = .int .i64 z ∧ Hid (st'.pc = k1 + z) ∧ Hid ((z = 0 → st'.obs = ob0) ∧ (1 ≤ z → st'.kept = ob0) ∧ (z = bdn + 2 → st'.obs = ob0)) ∧ Hid (Mac wr w9.heap.size b F' QS st') ∧ Hid (Way QS st') ∧ Hid (∀ g ∈ F', g < wr.heap.size) ∧ Hid (Foot F5 F' w12 wr) ∧ Below w.heap.size w wr) (fun i _ => bdn + 2 - (intOf i).toNat)
            case atStart => exact ⟨0, st, F5, by omega, by omega, rfl, by rw [Nat.add_zero]; exact HPC, ⟨fun _ => HOB0.out, fun h => by omega, fun h => by omega⟩, HM12, HWS, HL12, Foot.refl _ _, hbb12⟩
            case round =>
              clear HM12 HL12 hbb12
              obtain ⟨i2, s2, F2, _, hi2, rfl, HPC2, HINV, HM2, HW2, HL2, HFT, hbr2⟩ := hrel
              by_cases hlt2 : i2 < bdn + 2
              · have hki2 : (i2 : Int) < (bdn : Int) + 2 := by omega
                go_wp2_with fail
                refine (mstep_any _ b F2 QS s2 _ HM2 HBK HW2).mono ?_
                rintro e w13 ⟨F3, rfl, hm13, hf13⟩
                have hbb13 : Below w.heap.size w w13 := hbr2.trans (hf13.belowB (fun g hg => Nat.le_trans HB9.out (HM2.out.low g hg)) hbr2.size)
                have HL13 : Hid (∀ g ∈ F3, g < w13.heap.size) := hf13.lt HL2.out
                have HFT13 : Hid (Foot F5 F3 w12 w13) := HFT.out.trans hf13
                obtain ⟨r, HRR⟩ : ∃ r, Hid (stepM QS s2 = r) := ⟨_, (rfl : _ = _)⟩
                rw [HRR.out] at hm13 ⊢
                have HM13 := hid_of2 hm13
                clear hm13 hf13
                cases r with
                | inr c =>
                  have HC0 := hid_of2 (stepM_err HRR.out)
                  unfold numM
                  rw [errV_pos HC0.out]
                  go_wp2_with fail
                  go_ret
                  exact ⟨rfl, hbb13⟩
                | inl s' =>
                  have HM14 : Hid (Mac w13 w9.heap.size b F3 QS s') := HM13.out
                  have HW14 : Hid (Way QS s') := stepM_way HBK.out HW2.out HRR.out
                  have HNEW : Hid (s'.pc = k1 + (i2 + 1)) ∧ Hid ((i2 + 1 = 0 → s'.obs = ob0) ∧ (1 ≤ i2 + 1 → s'.kept = ob0) ∧ (i2 + 1 = bdn + 2 → s'.obs = ob0)) := by
                    obtain ⟨v0, v1, v2⟩ := HINV.out
                    by_cases z0 : i2 = 0
                    · subst z0
                      obtain ⟨p1, _, p3, _⟩ := step_pl (q := svQ) (by rw [HPC2.out, Nat.add_zero]; exact HKQ.out.save) ⟨by simp, by simp, by simp⟩ HRR.out
                      exact ⟨by have := HPC2.out; unfold Hid; omega, fun h => by omega, fun _ => by rw [(p3 rfl).1, v0 rfl], fun h => by omega⟩
                    by_cases z1 : i2 = bdn + 1
                    · obtain ⟨p1, p2, _, p4⟩ := step_pl (q := skQ) (by rw [HPC2.out, z1, ← Nat.add_assoc, Nat.add_right_comm]; exact HKQ.out.seek) ⟨by simp, by simp, by simp⟩ HRR.out
                      exact ⟨by have := HPC2.out; unfold Hid; omega, fun h => by omega, fun _ => by rw [p2 (by simp), v1 (by omega)], fun _ => by rw [p4 rfl, v1 (by omega)]⟩
                    · obtain ⟨b1, b2⟩ := HKQ.out.body (i2 - 1) (by omega)
                      obtain ⟨p1, p2, _, _⟩ := step_pl (q := QS.getD (k1 + 1 + (i2 - 1)) pq0) (by rw [HPC2.out, show k1 + i2 = k1 + 1 + (i2 - 1) by omega]) b1 HRR.out
                      exact ⟨by have := HPC2.out; unfold Hid; omega, fun h => by omega, fun _ => by rw [p2 b2, v1 (by omega)], fun h => by omega⟩
                  obtain ⟨HPC14, HIN14⟩ := HNEW
                  unfold numM
                  rw [show errV 0 = Value.nilIface from rfl]
                  clear HM13 HM2 HW2 HL2 HFT hbr2 HINV HPC2
                  go_wp2_with fail
                  go_roundw
                  case rel => exact ⟨i2 + 1, s', F3, by omega, by omega, by go_num, HPC14, HIN14, HM14, HW14, HL13, HFT13, hbb13⟩
                  case measure => simp [intOf]; omega
              obtain rfl : i2 = bdn + 2 := by omega
              have hki2 : ¬ (((bdn + 2 : Nat) : Int)) < (bdn : Int) + 2 := by omega
              have hki3 : ¬ ((bdn : Int) + 2) < (bdn : Int) + 2 := by omega
              have HT : Hid (decide ((QS.getD s2.pc pq0).kind = 16) = true) := by
                unfold Hid
                rw [HPC2.out, show k1 + (bdn + 2) = k1 + 2 + bdn by omega, HKQ.out.last]
                rfl
              have HOBE : Hid (s2.obs = ob0) := HINV.out.2.2 rfl
              go_wp2_with fail
              refine (mdone_any _ b F2 QS s2 _ HM2 HW2.out.on true HT).mono ?_
              rintro e w14 ⟨rfl, hb14⟩
              have hbb14 := hbr2.trans (hb14.mono hbr2.size)
              have HM14 : Hid (Mac w14 w9.heap.size b F2 QS s2) := HM2.out.on hb14
              have HFT14 : Hid (Foot F5 F2 w12 w14) := HFT.out.trans (Foot.below hb14 F2)
              clear hb14 HM2 HFT hbr2
              go_wp2_with fail
              refine (mobj_any _ b F2 QS s2 _ HM14 HW2.out.obs).mono ?_
              rintro e w15 ⟨vx, ox, rfl, hox, hxf, hb15⟩
              have hbb15 := hbb14.trans (hb15.mono hbb14.size)
              have HR0 : Hid (RdO w15 vx ob0) := by unfold Hid; rw [← HOBE.out, ← hxf]; exact hox.rd
              have HOW15 : OwnOb w15 BW vw ow := (HOW.out.foot HFT14.out HLF.out).on hb15
              have HR1 : Hid (RdO w15 vw ob0) := by unfold Hid; rw [← HOF.out]; exact HOW15.rd
              have hfew := HFO.out.few
              have HPX : Hid (∀ o ∈ ob0, o.ps.length ≤ 1000) := fun o ho => by have := check_len _ _ _ ((fault_iff o).1 (HFO.out.ok o ho)).2.2.2; omega
              clear hox hxf hb15 HOW15
              go_wp2_with fail
              refine (sameObs_any _ _ ob0 _ (by omega) HPX.out HR0 HR1).mono ?_
              rintro e w16 ⟨rfl, hb16⟩
              have hbb16 := hbb15.trans (hb16.mono hbb15.size)
              clear hb16
              go_wp2_with fail
              go_ret
              exact ⟨rfl, hbb16⟩
end Go.Proofs.YtbdgcomjhblnfaaDoor
