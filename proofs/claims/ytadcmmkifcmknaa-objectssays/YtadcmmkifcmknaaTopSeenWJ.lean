/- Walk of the law TopSeen. -/
import Derived.Test.YtadcmmkifcmknaaM6
import Derived.Test.YtadcmmkifcmknaaSeenMJ
import Derived.Test.YtadcmmkifcmknaaTPixJ
import Derived.Test.YtadcmmkifcmknaaOlBJ
namespace Go.Proofs.Ytadcmmkifcmknaa
open Go.RowKit

theorem flt_take (os : List Po) (t : Int) (k : Nat) (hk : k < os.length) : (os.take (k + 1)).filter (fun o => decide (o.id ≠ t)) = (os.take k).filter (fun o => decide (o.id ≠ t)) ++ (if (os.getD k po0).id ≠ t then [os.getD k po0] else []) := by
  rw [List.take_succ_eq_append_getElem hk, List.filter_append, List.getD_eq_getElem?_getD, List.getElem?_eq_getElem hk]
  congr 1
  simp only [Option.getD_some]
  by_cases h : os[k].id = t <;> simp [h]

/-- what is known of the two objects' lists behind the loop: the rest -/
theorem good_mem {os : List Po} (h : GoodO os) : ∀ o ∈ os, o.ps.length ≤ 80 ∧ o.fault' = 0 := fun o ho => ⟨(all_mem (P := fun o => o.ps.length ≤ 80) os).1 h.pix o ho, (all_mem (P := fun o => o.fault = 0) os).1 h.ok o ho⟩
/-- lists that Seen takes -/
structure Fit (os : List Po) : Prop where
  few : os.length ≤ 1000
  pix : ∀ j, j < os.length → (os.getD j po0).ps.length ≤ 100
  ok : ∀ j, j < os.length → (os.getD j po0).fault' = 0
theorem fit_of {os : List Po} (h1 : os.length ≤ 1000) (h2 : ∀ o ∈ os, o.ps.length ≤ 100 ∧ o.fault' = 0) : Fit os :=
  ⟨h1, (all_mem (P := fun o => o.ps.length ≤ 100) os).2 (fun o ho => (h2 o ho).1), (all_mem (P := fun o => o.fault' = 0) os).2 (fun o ho => (h2 o ho).2)⟩

set_option maxHeartbeats 40000000 in
set_option maxRecDepth 100000 in
theorem topSeen_any (v : Value) (os : List Po) (id W' H' bv ba vv : Int) (w : World) (HR : Hid (RdO w v os)) :
    Calls Try.prog 4 #[v, .int .i64 id, .int .i64 W', .int .i64 H', pixV bv ba, .int .i64 vv] w fun e w' => e = .returned (.bool true) ∧ Below w.heap.size w w' := by
  obtain ⟨i0, hi, hz0, hz1, hz2⟩ := info_parts Try.infoOb
  obtain ⟨a, cap, hv, hl, hcap⟩ := HR.out.shape
  obtain ⟨n, HN⟩ : ∃ n, Hid (os.length = n) := ⟨_, (rfl : _ = _)⟩
  rw [HN.out] at hv hl
  subst hv
  unfold pixV
  have hb0 : Below w.heap.size w (w.alloc (.cells #[.int .i64 bv, .int .i64 ba] 33)) := (Below.refl _ _).alloc (Nat.le_refl _) _
  have T0 := two_start w (.int .i64 bv) (.int .i64 ba) 33 w.heap.size rfl
  go_enter Try.func4, Try.ntmps4
  go_wp2_with fail
  refine (seen_any _ [] 2 1 5 9 _ (by simp) (by simp) (by simp) (rdO_nil _) (by omega) (by omega) (by omega) (by omega) (by omega) (by omega) (by omega) (by omega)).mono ?_
  unfold picV
  rintro e w1 ⟨v1, rfl, R1, hb1⟩
  have T1 := T0.on hb1
  have hbb1 := hb0.trans (hb1.mono hb0.size)
  obtain ⟨a1, c1, hv1, _, _, hc1⟩ := R1
  simp [seenL] at hv1
  subst hv1
  obtain ⟨g1, o1, rfl, hg1, hr1⟩ := hc1 (by simp [seenL])
  obtain ⟨_, r0⟩ := hr1 1 (by simp [seenL])
  simp [seenL] at r0
  clear hr1 hc1 hb1 hb0 T0
  have hbx : Below w1.heap.size w1 (w1.alloc (.cells #[.int .i64 2, .int .i64 1, .slice (some ⟨g1, o1, none⟩) 2 c1] 25)) := (Below.refl _ _).alloc (Nat.le_refl _) _
  have T2 := hid_of2 (T1.on hbx)
  have hbb2 := hbb1.trans (hbx.mono hbb1.size)
  have HR2 : Hid (RdO (w1.alloc (.cells #[.int .i64 2, .int .i64 1, .slice (some ⟨g1, o1, none⟩) 2 c1] 25)) (.slice a n cap) os) := HR.out.on hbb2
  clear T1 hbb1 hbx
  go_wp2_with fail
  generalize w1.alloc (.cells #[.int .i64 2, .int .i64 1, .slice (some ⟨g1, o1, none⟩) 2 c1] 25) = X2 at *
  refine (lightO_any _ os _ HR2).mono ?_
  rintro e w2 ⟨bl, rfl, hgood, hb2⟩
  have T3 := hid_of2 (T2.out.on hb2)
  have hbb3 := hbb2.trans (hb2.mono hbb2.size)
  clear hb2 hbb2 T2 HR2 r0 hg1
  cases bl with
  | false =>
    go_wp2_with fail
    go_ret
    exact ⟨rfl, hbb3⟩
  | true =>
    have HGO := hid_of2 (hgood rfl)
    clear hgood
    obtain ⟨t0, t1, tf0, tf1, tlt⟩ := T3.out
    by_cases hq0 : W' < 1
    · go_wp2_with fail
      go_ret
      exact ⟨rfl, hbb3⟩
    by_cases hq4 : 8 < W'
    · go_wp2_with fail
      go_ret
      exact ⟨rfl, hbb3⟩
    by_cases hq8 : H' < 1
    · go_wp2_with fail
      go_ret
      exact ⟨rfl, hbb3⟩
    by_cases hq12 : 8 < H'
    · go_wp2_with fail
      go_ret
      exact ⟨rfl, hbb3⟩
    obtain ⟨W, rfl⟩ : ∃ W : Nat, W' = (W : Int) := ⟨W'.toNat, by omega⟩
    obtain ⟨H, rfl⟩ : ∃ H : Nat, H' = (H : Int) := ⟨H'.toNat, by omega⟩
    have w1' : 1 ≤ W := by omega
    have w2' : W ≤ 8 := by omega
    have h1' : 1 ≤ H := by omega
    have h2' : H ≤ 8 := by omega
    go_wp2_with fail
    cases hpx : pixB bv ba with
    | false =>
      refine (tpixel_any bv ba _ false hpx).mono ?_
      rintro e w4 ⟨rfl, hb4⟩
      have hbb4 := hbb3.trans (hb4.mono hbb3.size)
      go_wp2_with fail
      go_ret
      exact ⟨rfl, hbb4⟩
    | true =>
      refine (tpixel_any bv ba _ true hpx).mono ?_
      rintro e w4 ⟨rfl, hb4⟩
      have hbb4 := hbb3.trans (hb4.mono hbb3.size)
      have T4 := hid_of2 (T3.out.on hb4)
      rw [pixB_iff] at hpx
      obtain ⟨x1, x2, x3, x4⟩ := hpx
      clear t0 t1 tf0 tf1 tlt hb4 T3 hbb3
      by_cases hv1 : vv < 0
      · go_wp2_with fail
        go_ret
        exact ⟨rfl, hbb4⟩
      by_cases hv2 : 255 < vv
      · go_wp2_with fail
        go_ret
        exact ⟨rfl, hbb4⟩
      have HR4 : Hid (RdO w4 (.slice a n cap) os) := HR.out.on hbb4
      have hos : os.length ≤ 6 := HGO.out.few
      go_wp2_with fail
      refine (get_any _ os id _ (by omega) (fun j hj => by have := HGO.out.pix j hj; omega) HGO.out.sort HR4).mono ?_

      rintro e w5 ⟨hb5, hget⟩
      have T5a := hid_of2 (T4.out.on hb5)
      have hbb5a := hbb4.trans (hb5.mono hbb4.size)
      have HR5 : Hid (RdO w5 (.slice a n cap) os) := HR.out.on hbb5a
      rcases hget with ⟨i, u, hi, hit, rfl, hou⟩ | ⟨hnone, rfl⟩
      · obtain ⟨ob, HX⟩ : ∃ o, Hid (os.getD i po0 = o) := ⟨_, (rfl : _ = _)⟩
        have HSH := hid_of2 (set_hide os HGO.out.sort i hi id hit)
        have HPUT := hid_of2 (setO_put ob.hide os i hi (fun j hj => by have h := HGO.out.sort j i hj hi; rw [HX.out] at h; exact h) (by rw [HX.out]; rfl))
        rw [HX.out] at hou HSH hit ⊢
        have hobp := (good_mem HGO.out ob (by rw [← HX.out]; exact getD_mem_po hi)).1
        have hobf := (good_mem HGO.out ob (by rw [← HX.out]; exact getD_mem_po hi)).2
        have HUO := hid_of2 (rdP_own hou)
        obtain ⟨mu, HMU⟩ : ∃ mu, Hid (ob.ps.length = mu) := ⟨_, (rfl : _ = _)⟩
        obtain ⟨au, cu, hu⟩ := own_any hou
        rw [HMU.out] at hu
        subst hu
        have HGOB := hid_of2 hobf
        clear hou hi hit hobf
        have hbx5 : Below w5.heap.size w5 (w5.alloc (.cells #[.int .i64 ob.id, .int .i64 ob.x, .int .i64 ob.y, .int .i64 ob.pw, .int .i64 ob.ph, .slice au mu cu, .int .i64 ob.cx, .int .i64 ob.cy, .int .i64 ob.cw, .int .i64 ob.ch, .bool false] 29)) := (Below.refl _ _).alloc (Nat.le_refl _) _
        have E5 := eleven_start w5 (.int .i64 ob.id) (.int .i64 ob.x) (.int .i64 ob.y) (.int .i64 ob.pw) (.int .i64 ob.ph) (.slice au mu cu) (.int .i64 ob.cx) (.int .i64 ob.cy) (.int .i64 ob.cw) (.int .i64 ob.ch) (.bool false) 29 w5.heap.size rfl
        have T5b := hid_of2 (T5a.out.on hbx5)
        have hbb5b := hbb5a.trans (hbx5.mono hbb5a.size)
        have HR5b : Hid (RdO _ (.slice a n cap) os) := HR.out.on hbb5b
        have HUOb := hid_of2 (HUO.out.on hbx5)
        unfold poV objV
        clear hb5 hbx5 HUO T5a hbb5a HR5 hbb4 HR4 T4
        go_wp2_with fail
        have hset := set_any (.slice a n cap) os ob.hide (.slice au mu cu) _ (by omega) (fun j hj => by have := HGO.out.pix j hj; omega) (show ob.ps.length ≤ 100 by omega) HGO.out.sort HR5b HUOb
        unfold poV objV Po.hide at hset
        refine hset.mono ?_
        clear hset
        rintro e wc ⟨vh, qh, rfl, hoh, hqh, hbc⟩
        obtain ⟨hs, HHS⟩ : ∃ hs, Hid (qh.map Prod.fst = hs) := ⟨_, (rfl : _ = _)⟩
        have HH := hid_of2 hoh.rd
        rw [HHS.out] at HH hqh
        have hqh2 : hs = os.map (fun o => if o.id = id then o.hide else o) := by rw [hqh]; exact HPUT.out.trans HSH.out
        have HSE : Hid (seenL W H (bv, ba) hs = seenL W H (bv, ba) (os.filter (fun o => decide (o.id ≠ id)))) := by
          unfold Hid seenL
          rw [hqh2]
          exact seen_hide W id os _
        have FH : Hid (Fit hs) := by
          rw [hqh2]
          refine fit_of (by simp; omega) (fun o ho => ?_)
          obtain ⟨z, hz, rfl⟩ := List.mem_map.1 ho
          have hg := good_mem HGO.out z hz
          by_cases hzi : z.id = id
          · rw [if_pos hzi]
            exact ⟨show z.ps.length ≤ 100 by omega, hg.2⟩
          · rw [if_neg hzi]
            exact ⟨by omega, hg.2⟩
        have T5 := hid_of2 (T5b.out.on hbc)
        have hbb5 := hbb5b.trans (hbc.mono hbb5b.size)
        clear hqh hqh2 hoh hbc HUOb HR5b T5b hbb5b HPUT HSH
        obtain ⟨ah, ch', hvh, _, _⟩ := HH.out.shape
        obtain ⟨nh, HNH⟩ : ∃ nh, Hid (hs.length = nh) := ⟨_, (rfl : _ = _)⟩
        rw [HNH.out] at hvh
        subst hvh
        have hbz5 : Below wc.heap.size wc wc := Below.refl _ _
        go_wp2_with fail
        go_loopw [17, 18] (fun o i wr => ∃ (k : Nat) (qs : List (Po × Value)) (oa : Option Addr) (m oc : Nat), k ≤ n ∧ i = .int .i64 k ∧ o = .slice oa m oc ∧ Hid (qs.length = m) ∧ Hid (wr.ownsRow wc.heap.size 29 11 (.slice oa m oc) qs.length (obCells qs)) ∧ Hid (∀ q ∈ qs, RdP w q.2 q.1.ps) ∧ Hid (qs.map Prod.fst = (os.take k).filter (fun o => decide (o.id ≠ id))) ∧ Below wc.heap.size wc wr) (fun _ i _ => n - (intOf i).toNat)
        case atStart => exact ⟨0, [], none, 0, 0, by omega, rfl, rfl, (rfl : _ = _), World.ownsRow_nil _ _ _ _, (by intro q hq; simp at hq), (rfl : _ = _), hbz5⟩
        case round =>
          obtain ⟨k, qs, oa, m, oc, hk, rfl, rfl, HLQ, HO, HP, HF, hbr⟩ := hrel
          have hbrw : Below w.heap.size w wr := hbb5.trans (hbr.mono hbb5.size)
          by_cases hlt : k < n
          · have hlt' : k < os.length := by rw [HN.out]; exact hlt
            have HFT := hid_of2 (flt_take os id k hlt')
            obtain ⟨ob, HX⟩ : ∃ o, Hid (os.getD k po0 = o) := ⟨_, (rfl : _ = _)⟩
            rw [HX.out] at HFT
            obtain ⟨g0, p0, ua0, q0, uc0, ha0, hg0, OC0, HU0, HM0⟩ := HR.out.at hlt HX
            obtain ⟨g, p, ua, q, uc, ha, hg, OC, HU, HM⟩ := (HR.out.on hbrw).at hlt HX
            subst ha
            simp only [Option.some.injEq, Addr.mk.injEq, and_true] at ha0
            obtain ⟨rfl, rfl⟩ := ha0
            have hcu : Value.slice ua q uc = Value.slice ua0 q0 uc0 := by
              have e1 := (hbrw.cell (p := ⟨g, p + k * 11 + 5, none⟩) hg0).trans OC0.c5
              have e2 := OC.c5
              rw [e1] at e2
              exact (Option.some.inj e2).symm
            have HUW : Hid (RdP w (.slice ua q uc) ob.ps) := by rw [hcu]; exact HU0
            clear OC0 HU0 HM0 hg0 hcu
            obtain ⟨c0, c1, c2, c3, c4, c5, c6, c7, c8, c9, c10⟩ := OC
            obtain ⟨id_, x, y, pw, ph, ps, cx, cy, cw, ch, sh⟩ := ob
            simp only at c0 c1 c2 c3 c4 c5 c6 c7 c8 c9 c10 HU HM HUW
            have hm6 : m ≤ 6 := by
              have h1 := congrArg List.length HF.out
              rw [List.length_map, HLQ.out] at h1
              have h2 := List.length_filter_le (fun o : Po => decide (o.id ≠ id)) (os.take k)
              rw [List.length_take] at h2
              omega
            have hki0 : (0 : Int) ≤ (k : Int) := by omega
            have hki1 : (k : Int) < (n : Int) := by omega
            clear hlt' HX hos
            by_cases he : id_ = id
            · have HF2 : Hid (qs.map Prod.fst = (os.take (k + 1)).filter (fun o => decide (o.id ≠ id))) := by
                unfold Hid
                rw [HFT.out, HF.out, if_neg (by simpa using he), List.append_nil]
              subst he
              clear HF HFT
              go_wp2_with fail
              go_roundw
              case rel => exact ⟨k + 1, qs, oa, m, oc, by omega, by go_num, rfl, HLQ, HO, HP, HF2, hbr⟩
              case measure => simp [intOf]; omega
            · have HF2 : Hid ((qs ++ [((⟨id_, x, y, pw, ph, ps, cx, cy, cw, ch, sh⟩ : Po), Value.slice ua q uc)]).map Prod.fst = (os.take (k + 1)).filter (fun o => decide (o.id ≠ id))) := by
                unfold Hid
                rw [HFT.out, List.map_append, HF.out, if_pos (by simpa using he)]
                rfl
              have hne : (id_ != id) = true := by simpa using he
              have hbx : Below wr.heap.size wr (wr.alloc (.cells #[.int .i64 id_, .int .i64 x, .int .i64 y, .int .i64 pw, .int .i64 ph, .slice ua q uc, .int .i64 cx, .int .i64 cy, .int .i64 cw, .int .i64 ch, .bool sh] 29)) := (Below.refl _ _).alloc (Nat.le_refl _) _
              have HO2 := own_on2 HO.out hbx
              rw [HLQ.out] at HO2
              have hbw2 : Below wc.heap.size wc (wr.alloc (.cells #[.int .i64 id_, .int .i64 x, .int .i64 y, .int .i64 pw, .int .i64 ph, .slice ua q uc, .int .i64 cx, .int .i64 cy, .int .i64 cw, .int .i64 ch, .bool sh] 29)) := hbr.alloc hbr.size _
              obtain ⟨v', w3, hr, h1, h2, h3⟩ := run_append_own (P := Try.prog) _ wc.heap.size 22 22 29 i0 (.agg #[.int .i64 0, .int .i64 0, .int .i64 0, .int .i64 0, .int .i64 0, .slice none 0 0, .int .i64 0, .int .i64 0, .int .i64 0, .int .i64 0, .bool false]) 11 104 Try.underlying22 hi hz0 hz1 hz2 rfl (by decide) (.slice oa m oc) m _ HO2 ⟨wr.heap.size, 0, none⟩ 1 1 (oCells ⟨id_, x, y, pw, ph, ps, cx, cy, cw, ch, sh⟩ (.slice ua q uc)) rfl (new_cells wr _ 29) (pix_one _ _ rfl) (by unfold maxLen; omega) (by omega) hbw2.size
              obtain ⟨va', vc', hv'⟩ := own_any h1
              subst hv'
              have HO4 : Hid (w3.ownsRow wc.heap.size 29 11 (.slice va' (m + 1) vc') (qs ++ [((⟨id_, x, y, pw, ph, ps, cx, cy, cw, ch, sh⟩ : Po), Value.slice ua q uc)]).length (obCells (qs ++ [((⟨id_, x, y, pw, ph, ps, cx, cy, cw, ch, sh⟩ : Po), Value.slice ua q uc)]))) := by
                unfold Hid
                rw [obCells_app, List.length_append, HLQ.out]
                simpa [obCells] using h1
              have HP4 : Hid (∀ z ∈ qs ++ [((⟨id_, x, y, pw, ph, ps, cx, cy, cw, ch, sh⟩ : Po), Value.slice ua q uc)], RdP w z.2 z.1.ps) := by
                intro z hz
                rcases List.mem_append.1 hz with hz | hz
                · exact HP.out z hz
                · simp at hz
                  subst hz
                  exact HUW.out
              have hb3 : Below wc.heap.size wc w3 := hbw2.grown h2 hbw2.size (fun z hz => (HO2.lt z hz).1)
              clear h1 h2 h3 HO2 hbx hbw2 HF HFT he
              go_wp2_with (at_builtin; refine Lib.wpList_append_run _ rfl _ _ _ _ rfl _ _ rfl rfl _ _ hr ?_)
              go_roundw
              case rel => exact ⟨k + 1, _, va', m + 1, vc', by omega, by go_num, rfl, (by unfold Hid; rw [List.length_append, HLQ.out]; rfl), HO4, HP4, HF2, hb3⟩
              case measure => simp [intOf]; omega
          · obtain rfl : k = n := by omega
            have hfl : (qs.map Prod.fst) = os.filter (fun o => decide (o.id ≠ id)) := by rw [HF.out, List.take_of_length_le (by rw [HN.out]; exact Nat.le_refl _)]
            have FW : Hid (Fit (qs.map Prod.fst)) := by
              rw [hfl]
              refine fit_of ?_ (fun o ho => ?_)
              · have := List.length_filter_le (fun o : Po => decide (o.id ≠ id)) os
                omega
              · have := good_mem HGO.out o (List.mem_filter.1 ho).1
                omega
            have HSW : Hid (seenL W H (bv, ba) (qs.map Prod.fst) = seenL W H (bv, ba) hs) := by unfold Hid; rw [hfl]; exact HSE.out.symm
            clear hfl HF
            have HOr : Hid (RdO wr (.slice oa m oc) (qs.map Prod.fst)) := rdO_sh HO.out (fun q hq => (HP.out q hq).on hbrw)
            have HHr : Hid (RdO wr (.slice ah nh ch') hs) := HH.out.on hbr
            obtain ⟨y0, y1, yf0, yf1, ylt⟩ := T5.out.on hbr
            obtain ⟨L1, HL1⟩ : ∃ L1, Hid (seenL W H (bv, ba) hs = L1) := ⟨_, (rfl : _ = _)⟩
            have hL1 : L1.length ≤ 1000 := by
              obtain ⟨PW, PH, e1, e2, _, k2, _, k4, k5, _⟩ := check_zero _ _ _ (seen_check W H bv ba w1' w2' h1' h2' x1 x2 x3 x4 hs (fun o ho => (all_mem (P := fun o => o.fault' = 0) hs).1 FH.out.ok o ho))
              rw [HL1.out] at k5
              have := Nat.mul_le_mul k2 k4
              omega
            have KEEP : Hid (∀ w', Below wr.heap.size wr w' → (w'.cell? ⟨w.heap.size, 0, none⟩ = some (.int .i64 bv) ∧ w'.cell? ⟨w.heap.size, 1, none⟩ = some (.int .i64 ba))) := by
              intro w' h
              exact ⟨by rw [h.cell (p := ⟨w.heap.size, 0, none⟩) ylt]; exact y0, by rw [h.cell (p := ⟨w.heap.size, 1, none⟩) ylt]; exact y1⟩
            have HHd : Hid (RdO wr.drew (.slice ah nh ch') hs) := HHr.out.on (Below.refl _ _).drew
            clear y0 y1 yf0 yf1 HHr HO HP
            go_wp2_with fail
            refine wp_region_held_drew (S := (fun w' => w'.cell? ⟨w.heap.size, 0, none⟩ = some (.int .i64 bv) ∧ w'.cell? ⟨w.heap.size, 1, none⟩ = some (.int .i64 ba))) (by kernel_rfl) ?_ (fun hHeld => ?_)
            · exact KEEP.out _ (Below.refl _ _).drew
            refine wpAnyH_take (i := 0) (oi := ({ dst := some 104, op := Op.move (Operand.tmp 14), type := 22, pos := "parts.go:294", after := #[], guard := none } : Oper)) (v := ?_) rfl (by kernel_rfl) (by kernel_rfl) (by kernel_rfl) (fun _ _ _ h => h) (Or.inl ⟨by rfl, ?_⟩) (by assumption) ?_
            rotate_left
            · (intro w hSw; (try dsimp only at hSw); go_simp; try with_reducible rfl)
            try simp only [Act.put, List.setIfInBounds_toArray, List.set_cons_zero, List.set_cons_succ]
            refine wpAnyH_take (i := 1) (oi := ({ dst := some 105, op := Op.move (Operand.tmp 2), type := 3, pos := "parts.go:294", after := #[], guard := none } : Oper)) (v := ?_) rfl (by kernel_rfl) (by kernel_rfl) (by kernel_rfl) (fun _ _ _ h => h) (Or.inl ⟨by rfl, ?_⟩) (by assumption) ?_
            rotate_left
            · (intro w hSw; (try dsimp only at hSw); go_simp; try with_reducible rfl)
            try simp only [Act.put, List.setIfInBounds_toArray, List.set_cons_zero, List.set_cons_succ]
            refine wpAnyH_take (i := 2) (oi := ({ dst := some 106, op := Op.move (Operand.tmp 3), type := 3, pos := "parts.go:294", after := #[], guard := none } : Oper)) (v := ?_) rfl (by kernel_rfl) (by kernel_rfl) (by kernel_rfl) (fun _ _ _ h => h) (Or.inl ⟨by rfl, ?_⟩) (by assumption) ?_
            rotate_left
            · (intro w hSw; (try dsimp only at hSw); go_simp; try with_reducible rfl)
            try simp only [Act.put, List.setIfInBounds_toArray, List.set_cons_zero, List.set_cons_succ]
            refine wpAnyH_take (i := 3) (oi := ({ dst := some 107, op := Op.load 33 (Operand.tmp 10), type := 33, pos := "parts.go:294", after := #[], guard := none } : Oper)) (v := ?_) rfl (by kernel_rfl) (by kernel_rfl) (by kernel_rfl) (fun _ _ _ h => h) (Or.inl ⟨by rfl, ?_⟩) (by assumption) ?_
            rotate_left
            · (intro w hSw; (try dsimp only at hSw); go_simp; try with_reducible rfl)
            try simp only [Act.put, List.setIfInBounds_toArray, List.set_cons_zero, List.set_cons_succ]
            refine wpAnyH_take (i := 5) (oi := ({ dst := some 109, op := Op.move (Operand.tmp 17), type := 22, pos := "parts.go:294", after := #[], guard := none } : Oper)) (v := ?_) rfl (by kernel_rfl) (by kernel_rfl) (by kernel_rfl) (fun _ _ _ h => h) (Or.inl ⟨by rfl, ?_⟩) (by assumption) ?_
            rotate_left
            · (intro w hSw; (try dsimp only at hSw); go_simp; try with_reducible rfl)
            try simp only [Act.put, List.setIfInBounds_toArray, List.set_cons_zero, List.set_cons_succ]
            refine wpAnyH_take (i := 6) (oi := ({ dst := some 110, op := Op.move (Operand.tmp 2), type := 3, pos := "parts.go:294", after := #[], guard := none } : Oper)) (v := ?_) rfl (by kernel_rfl) (by kernel_rfl) (by kernel_rfl) (fun _ _ _ h => h) (Or.inl ⟨by rfl, ?_⟩) (by assumption) ?_
            rotate_left
            · (intro w hSw; (try dsimp only at hSw); go_simp; try with_reducible rfl)
            try simp only [Act.put, List.setIfInBounds_toArray, List.set_cons_zero, List.set_cons_succ]
            refine wpAnyH_take (i := 7) (oi := ({ dst := some 111, op := Op.move (Operand.tmp 3), type := 3, pos := "parts.go:294", after := #[], guard := none } : Oper)) (v := ?_) rfl (by kernel_rfl) (by kernel_rfl) (by kernel_rfl) (fun _ _ _ h => h) (Or.inl ⟨by rfl, ?_⟩) (by assumption) ?_
            rotate_left
            · (intro w hSw; (try dsimp only at hSw); go_simp; try with_reducible rfl)
            try simp only [Act.put, List.setIfInBounds_toArray, List.set_cons_zero, List.set_cons_succ]
            refine wpAnyH_take (i := 8) (oi := ({ dst := some 112, op := Op.load 33 (Operand.tmp 10), type := 33, pos := "parts.go:294", after := #[], guard := none } : Oper)) (v := ?_) rfl (by kernel_rfl) (by kernel_rfl) (by kernel_rfl) (fun _ _ _ h => h) (Or.inl ⟨by rfl, ?_⟩) (by assumption) ?_
            rotate_left
            · (intro w hSw; (try dsimp only at hSw); go_simp; try with_reducible rfl)
            try simp only [Act.put, List.setIfInBounds_toArray, List.set_cons_zero, List.set_cons_succ]
            refine wpAnyH_ready (rs := [4]) (by kernel_rfl) (by simp) ?_
            refine AllReadyH.cons (o := ({ dst := some 108, op := Op.call { callee := Callee.value (Operand.func 23), args := #[Operand.tmp 104, Operand.tmp 105, Operand.tmp 106, Operand.tmp 107], argTypes := #[22, 3, 3, 33] }, type := 25, pos := "parts.go:294", after := #[{ on := 0, ground := Ground.data }, { on := 1, ground := Ground.data }, { on := 2, ground := Ground.data }, { on := 3, ground := Ground.data }], guard := none } : Oper)) rfl (fun K_ hK => ?_) AllReadyH.nil
            go_simp
            refine (seen_any _ hs W H bv ba wr.drew FH.out.few FH.out.pix FH.out.ok HHd w1' w2' h1' h2' x1 x2 x3 x4).mono ?_
            unfold picV
            rintro e w6 ⟨u6, rfl, hr6, hb6⟩
            rw [HL1.out] at hr6
            have HR6 := hid_of2 hr6
            have HB6 : Hid (Below wr.heap.size wr w6) := ⟨hb6.os, hb6.tape, hb6.output, hb6.size, hb6.block⟩
            have HO6 : Hid (RdO w6 (.slice oa m oc) (qs.map Prod.fst)) := HOr.out.on HB6.out
            clear hr6 hb6 HHd HOr
            refine hK.out _ _ ?_ (fun hHeld => ?_)
            · exact KEEP.out _ HB6.out
            clear hK K_
            try simp only [Act.put, List.setIfInBounds_toArray, List.set_cons_zero, List.set_cons_succ]
            refine wpAnyH_ready (rs := [9]) (by kernel_rfl) (by simp) ?_
            refine AllReadyH.cons (o := ({ dst := some 113, op := Op.call { callee := Callee.value (Operand.func 23), args := #[Operand.tmp 109, Operand.tmp 110, Operand.tmp 111, Operand.tmp 112], argTypes := #[22, 3, 3, 33] }, type := 25, pos := "parts.go:294", after := #[{ on := 5, ground := Ground.data }, { on := 6, ground := Ground.data }, { on := 7, ground := Ground.data }, { on := 8, ground := Ground.data }, { on := 4, ground := Ground.chain }], guard := none } : Oper)) rfl (fun K_ hK => ?_) AllReadyH.nil
            go_simp
            refine (seen_any _ (qs.map Prod.fst) W H bv ba w6 FW.out.few FW.out.pix FW.out.ok HO6 w1' w2' h1' h2' x1 x2 x3 x4).mono ?_
            unfold picV
            rintro e w7 ⟨u7, rfl, hr7, hb7⟩
            rw [HSW.out, HL1.out] at hr7
            have HR7 := hid_of2 hr7
            have HR67 := hid_of2 (HR6.out.on hb7)
            have HB7 : Hid (Below wr.heap.size wr w7) := HB6.out.trans (hb7.mono HB6.out.size)
            clear hr7 hb7 HO6 HR6
            refine hK.out _ _ ?_ (fun hHeld => ?_)
            · exact KEEP.out _ HB7.out
            clear hK K_
            try simp only [Act.put, List.setIfInBounds_toArray, List.set_cons_zero, List.set_cons_succ]
            refine wpAnyH_ready (rs := [10]) (by kernel_rfl) (by simp) ?_
            refine AllReadyH.cons (o := ({ dst := some 114, op := Op.call { callee := Callee.value (Operand.func 22), args := #[Operand.tmp 108, Operand.tmp 113], argTypes := #[25, 25] }, type := 4, pos := "parts.go:294", after := #[{ on := 4, ground := Ground.data }, { on := 9, ground := Ground.data }, { on := 9, ground := Ground.chain }], guard := none } : Oper)) rfl (fun K_ hK => ?_) AllReadyH.nil
            go_simp
            refine (samePic_any W H u6 u7 L1 w7 hL1 HR67 HR7).mono ?_
            rintro e w8 ⟨rfl, hb8⟩
            have HB8 : Hid (Below wr.heap.size wr w8) := HB7.out.trans (hb8.mono HB7.out.size)
            clear hb8 HR67 HR7
            refine hK.out _ _ ?_ (fun hHeld => ?_)
            · exact KEEP.out _ HB8.out
            clear hK K_
            try simp only [Act.put, List.setIfInBounds_toArray, List.set_cons_zero, List.set_cons_succ]
            refine wpAnyH_take (i := 11) (oi := ({ dst := some 115, op := Op.unOp UnOp.not 4 (Operand.tmp 114), type := 4, pos := "parts.go:294", after := #[{ on := 10, ground := Ground.data }], guard := none } : Oper)) (v := ?_) rfl (by kernel_rfl) (by kernel_rfl) (by kernel_rfl) (fun _ _ _ h => h) (Or.inl ⟨by rfl, ?_⟩) (by assumption) ?_
            rotate_left
            · (intro w hSw; (try dsimp only at hSw); go_simp; try with_reducible rfl)
            try simp only [Act.put, List.setIfInBounds_toArray, List.set_cons_zero, List.set_cons_succ]
            refine wpAnyH_done (by kernel_rfl) ?_ _
            have T8 := hid_of2 (T5.out.on (hbr.trans (HB8.out.mono hbr.size)))
            have hbb8 := hbrw.trans (HB8.out.mono hbrw.size)
            clear HB7 HB8 HB6 KEEP hbrw hbr
            go_wp2_with fail
            refine (plainO_any W H vv 255 w1' w2' h1' h2' _).mono ?_
            unfold picV
            rintro e w9 ⟨u9, rfl, ho9, hb9⟩
            have hbb9 := hbb8.trans (hb9.mono hbb8.size)
            have hm1 : 1 * 1 ≤ W * H := Nat.mul_le_mul w1' h1'
            have hm8 : W * H ≤ 8 * 8 := Nat.mul_le_mul w2' h2'
            obtain ⟨LA, HLA⟩ : ∃ LA, Hid (List.replicate (W * H) (vv, (255 : Int)) = LA) := ⟨_, (rfl : _ = _)⟩
            have hLA : LA.length ≤ 100 := by rw [← HLA.out, List.length_replicate]; omega
            have HR9 : Hid (RdP w9 u9 LA) := by rw [← HLA.out]; exact rdP_own (by rw [List.length_replicate]; exact ho9)
            have T9 := hid_of2 (T8.out.on hb9)
            obtain ⟨a9, c9, hu9, _, _, _⟩ := HR9.out
            obtain ⟨n9, HN9⟩ : ∃ n9, Hid (LA.length = n9) := ⟨_, (rfl : _ = _)⟩
            rw [HN9.out] at hu9
            subst hu9
            clear ho9 hb9 hbb8 T8
            have hbx9 : Below w9.heap.size w9 (w9.alloc (.cells #[.int .i64 (W : Int), .int .i64 (H : Int), .slice a9 n9 c9] 25)) := (Below.refl _ _).alloc (Nat.le_refl _) _
            have P9 := hid_of2 (three_begin w9 (.int .i64 (W : Int)) (.int .i64 (H : Int)) (.slice a9 n9 c9) 25 w9.heap.size rfl)
            have HRA := hid_of2 (HR9.out.on hbx9)
            have TA := hid_of2 (T9.out.on hbx9)
            have hbbA := hbb9.trans (hbx9.mono hbb9.size)
            clear hbx9 HR9 T9 hbb9
            go_wp2_with fail
            generalize w9.alloc (.cells #[.int .i64 (W : Int), .int .i64 (H : Int), .slice a9 n9 c9] 25) = XA at *
            generalize w9.heap.size = b9 at *
            refine (fresh_any 6 W H _ LA _ hLA HRA).mono ?_
            unfold objV
            rintro e wB ⟨uB, rfl, hoB, hbB⟩
            have HRB := hid_of2 (rdP_own hoB)
            have PB := hid_of2 (P9.out.on hbB)
            have HRAB := hid_of2 (HRA.out.on hbB)
            have TB := hid_of2 (TA.out.on hbB)
            have hbbB := hbbA.trans (hbB.mono hbbA.size)
            have HROB : Hid (RdO wB (.slice a k cap) os) := HR.out.on hbbB
            obtain ⟨aB, cB, huB, _, _, _⟩ := HRB.out
            rw [HN9.out] at huB
            subst huB
            clear hoB hbB P9 HRA TA hbbA
            obtain ⟨x6, HX6⟩ : ∃ x6 : Po, Hid (x6 = ⟨6, 0, 0, (W : Int), (H : Int), LA, 0, 0, 20, 20, true⟩) := ⟨_, (rfl : _ = _)⟩
            go_wp2_with fail
            have hset := set_any (.slice a k cap) os x6 (.slice aB n9 cB) wB (by omega) (fun j hj => by have := HGO.out.pix j hj; omega) (by rw [HX6.out]; exact hLA) HGO.out.sort HROB (by rw [HX6.out]; exact HRB)
            unfold poV objV at hset
            rw [HX6.out] at hset
            refine hset.mono ?_
            clear hset
            rintro e wC ⟨vC, qc, rfl, hoC, hqC, hbC⟩
            have hx6 : x6.fault' = 0 := by
              rw [HX6.out, ← HLA.out]
              show objC 6 0 0 (W : Int) (H : Int) (List.replicate (W * H) (vv, 255)) 0 0 20 20 = 0
              unfold objC
              rw [if_neg (by omega), if_neg (by decide), if_neg (by decide)]
              exact check_plain W H vv 255 w1' w2' h1' h2' (by omega) (by omega) (by omega) (by omega)
            have FC : Hid (Fit (qc.map Prod.fst)) := by
              rw [hqC, ← HX6.out]
              refine fit_of ?_ (fun o ho => ?_)
              · have := setO_len x6 os
                omega
              · rcases setO_mem x6 os o ho with h | h
                · rw [h]
                  exact ⟨by rw [HX6.out]; exact hLA, hx6⟩
                · have := good_mem HGO.out o h
                  omega
            have HSC : Hid (seenL W H (bv, ba) (qc.map Prod.fst) = LA) := by
              unfold Hid
              rw [hqC, ← HX6.out]
              obtain ⟨pre, e, hm⟩ := setO_last x6 os HGO.out.sort (fun o ho => by
                have h := (good_mem HGO.out o ho).2
                have h2 := (objC_zero _ _ _ _ _ _ _ _ _ _ h).2.1
                rw [HX6.out]
                exact h2)
              have hck := seen_check W H bv ba w1' w2' h1' h2' x1 x2 x3 x4 pre (fun o ho => (good_mem HGO.out o (hm o ho)).2)
              rw [e]
              unfold seenL at hck ⊢
              rw [List.foldl_append]
              obtain ⟨PW, PH, e1, e2, _, _, _, _, k5, _⟩ := check_zero _ _ _ hck
              obtain rfl : PW = W := by omega
              obtain rfl : PH = H := by omega
              simp only [List.foldl_cons, List.foldl_nil]
              rw [HX6.out, ← HLA.out]
              exact lay_all PW PH w1' w2' h1' h2' vv _ k5
            have HROC := hid_of2 hoC.rd
            have PC := hid_of2 (PB.out.on hbC)
            have HRAC := hid_of2 (HRAB.out.on hbC)
            have TC := hid_of2 (TB.out.on hbC)
            have hbbC := hbbB.trans (hbC.mono hbbB.size)
            obtain ⟨aC, cC, hvC, _, _⟩ := HROC.out.shape
            obtain ⟨nC, HNC⟩ : ∃ nC, Hid ((qc.map Prod.fst).length = nC) := ⟨_, (rfl : _ = _)⟩
            rw [HNC.out] at hvC
            subst hvC
            clear hoC hqC hbC PB HRAB TB hbbB HRB HROB hx6
            obtain ⟨z0, z1, zf0, zf1, zlt⟩ := TC.out
            obtain ⟨s0, s1, s2, sf0, sf1, sf2, slt⟩ := PC.out
            have KEEP : Hid (∀ w', Below wC.heap.size wC w' → (w'.cell? ⟨w.heap.size, 0, none⟩ = some (.int .i64 bv) ∧ w'.cell? ⟨w.heap.size, 1, none⟩ = some (.int .i64 ba) ∧ w'.cell? ⟨b9, 0, none⟩ = some (.int .i64 (W : Int)) ∧ w'.cell? ⟨b9, 1, none⟩ = some (.int .i64 (H : Int)) ∧ w'.cell? ⟨b9, 2, none⟩ = some (.slice a9 n9 c9))) := by
              intro w' h
              exact ⟨by rw [h.cell (p := ⟨w.heap.size, 0, none⟩) zlt]; exact z0, by rw [h.cell (p := ⟨w.heap.size, 1, none⟩) zlt]; exact z1, by rw [h.cell (p := ⟨b9, 0, none⟩) slt]; exact s0, by rw [h.cell (p := ⟨b9, 1, none⟩) slt]; exact s1, by rw [h.cell (p := ⟨b9, 2, none⟩) slt]; exact s2⟩
            have HROd : Hid (RdO wC.drew (.slice aC nC cC) (qc.map Prod.fst)) := HROC.out.on (Below.refl _ _).drew
            clear z0 z1 zf0 zf1 zlt s0 s1 s2 sf0 sf1 sf2 slt HROC
            go_wp2_with fail
            refine wp_region_held_drew (S := (fun w' => w'.cell? ⟨w.heap.size, 0, none⟩ = some (.int .i64 bv) ∧ w'.cell? ⟨w.heap.size, 1, none⟩ = some (.int .i64 ba) ∧ w'.cell? ⟨b9, 0, none⟩ = some (.int .i64 (W : Int)) ∧ w'.cell? ⟨b9, 1, none⟩ = some (.int .i64 (H : Int)) ∧ w'.cell? ⟨b9, 2, none⟩ = some (.slice a9 n9 c9))) (by kernel_rfl) ?_ (fun hHeld => ?_)
            · exact KEEP.out _ (Below.refl _ _).drew
            refine wpAnyH_take (i := 0) (oi := ({ dst := some 125, op := Op.move (Operand.tmp 20), type := 22, pos := "parts.go:299", after := #[], guard := none } : Oper)) (v := ?_) rfl (by kernel_rfl) (by kernel_rfl) (by kernel_rfl) (fun _ _ _ h => h) (Or.inl ⟨by rfl, ?_⟩) (by assumption) ?_
            rotate_left
            · (intro w hSw; (try dsimp only at hSw); go_simp; try with_reducible rfl)
            try simp only [Act.put, List.setIfInBounds_toArray, List.set_cons_zero, List.set_cons_succ]
            refine wpAnyH_take (i := 1) (oi := ({ dst := some 126, op := Op.move (Operand.tmp 2), type := 3, pos := "parts.go:299", after := #[], guard := none } : Oper)) (v := ?_) rfl (by kernel_rfl) (by kernel_rfl) (by kernel_rfl) (fun _ _ _ h => h) (Or.inl ⟨by rfl, ?_⟩) (by assumption) ?_
            rotate_left
            · (intro w hSw; (try dsimp only at hSw); go_simp; try with_reducible rfl)
            try simp only [Act.put, List.setIfInBounds_toArray, List.set_cons_zero, List.set_cons_succ]
            refine wpAnyH_take (i := 2) (oi := ({ dst := some 127, op := Op.move (Operand.tmp 3), type := 3, pos := "parts.go:299", after := #[], guard := none } : Oper)) (v := ?_) rfl (by kernel_rfl) (by kernel_rfl) (by kernel_rfl) (fun _ _ _ h => h) (Or.inl ⟨by rfl, ?_⟩) (by assumption) ?_
            rotate_left
            · (intro w hSw; (try dsimp only at hSw); go_simp; try with_reducible rfl)
            try simp only [Act.put, List.setIfInBounds_toArray, List.set_cons_zero, List.set_cons_succ]
            refine wpAnyH_take (i := 3) (oi := ({ dst := some 128, op := Op.load 33 (Operand.tmp 10), type := 33, pos := "parts.go:299", after := #[], guard := none } : Oper)) (v := ?_) rfl (by kernel_rfl) (by kernel_rfl) (by kernel_rfl) (fun _ _ _ h => h) (Or.inl ⟨by rfl, ?_⟩) (by assumption) ?_
            rotate_left
            · (intro w hSw; (try dsimp only at hSw); go_simp; try with_reducible rfl)
            try simp only [Act.put, List.setIfInBounds_toArray, List.set_cons_zero, List.set_cons_succ]
            refine wpAnyH_take (i := 5) (oi := ({ dst := some 130, op := Op.load 25 (Operand.tmp 19), type := 25, pos := "parts.go:299", after := #[], guard := none } : Oper)) (v := ?_) rfl (by kernel_rfl) (by kernel_rfl) (by kernel_rfl) (fun _ _ _ h => h) (Or.inl ⟨by rfl, ?_⟩) (by assumption) ?_
            rotate_left
            · (intro w hSw; (try dsimp only at hSw); go_simp; try with_reducible rfl)
            try simp only [Act.put, List.setIfInBounds_toArray, List.set_cons_zero, List.set_cons_succ]
            refine wpAnyH_ready (rs := [4]) (by kernel_rfl) (by simp) ?_
            refine AllReadyH.cons (o := ({ dst := some 129, op := Op.call { callee := Callee.value (Operand.func 23), args := #[Operand.tmp 125, Operand.tmp 126, Operand.tmp 127, Operand.tmp 128], argTypes := #[22, 3, 3, 33] }, type := 25, pos := "parts.go:299", after := #[{ on := 0, ground := Ground.data }, { on := 1, ground := Ground.data }, { on := 2, ground := Ground.data }, { on := 3, ground := Ground.data }], guard := none } : Oper)) rfl (fun K_ hK => ?_) AllReadyH.nil
            go_simp
            refine (seen_any _ (qc.map Prod.fst) W H bv ba wC.drew FC.out.few FC.out.pix FC.out.ok HROd w1' w2' h1' h2' x1 x2 x3 x4).mono ?_
            unfold picV
            rintro e wD ⟨uD, rfl, hrD, hbD⟩
            rw [HSC.out] at hrD
            have HRD := hid_of2 hrD
            have HBD : Hid (Below wC.heap.size wC wD) := ⟨hbD.os, hbD.tape, hbD.output, hbD.size, hbD.block⟩
            have HRAD := hid_of2 (HRAC.out.on HBD.out)
            clear hrD hbD HROd HRAC
            refine hK.out _ _ ?_ (fun hHeld => ?_)
            · exact KEEP.out _ HBD.out
            clear hK K_
            try simp only [Act.put, List.setIfInBounds_toArray, List.set_cons_zero, List.set_cons_succ]
            refine wpAnyH_ready (rs := [6]) (by kernel_rfl) (by simp) ?_
            refine AllReadyH.cons (o := ({ dst := some 131, op := Op.call { callee := Callee.value (Operand.func 22), args := #[Operand.tmp 129, Operand.tmp 130], argTypes := #[25, 25] }, type := 4, pos := "parts.go:299", after := #[{ on := 4, ground := Ground.data }, { on := 5, ground := Ground.data }, { on := 4, ground := Ground.chain }], guard := none } : Oper)) rfl (fun K_ hK => ?_) AllReadyH.nil
            go_simp
            refine (samePic_any W H uD _ LA wD (by omega) HRD HRAD).mono ?_
            rintro e wE ⟨rfl, hbE⟩
            have HBE : Hid (Below wC.heap.size wC wE) := HBD.out.trans (hbE.mono HBD.out.size)
            clear hbE HRD HRAD
            refine hK.out _ _ ?_ (fun hHeld => ?_)
            · exact KEEP.out _ HBE.out
            clear hK K_
            try simp only [Act.put, List.setIfInBounds_toArray, List.set_cons_zero, List.set_cons_succ]
            refine wpAnyH_take (i := 7) (oi := ({ dst := some 12, op := Op.assign (Operand.tmp 131), type := 4, pos := "parts.go:299", after := #[{ on := 6, ground := Ground.data }, { on := 6, ground := Ground.chain }, { on := 0, ground := Ground.phase }, { on := 1, ground := Ground.phase }, { on := 2, ground := Ground.phase }, { on := 3, ground := Ground.phase }, { on := 4, ground := Ground.phase }, { on := 5, ground := Ground.phase }, { on := 6, ground := Ground.phase }], guard := none } : Oper)) (v := ?_) rfl (by kernel_rfl) (by kernel_rfl) (by kernel_rfl) (fun _ _ _ h => h) (Or.inl ⟨by rfl, ?_⟩) (by assumption) ?_
            rotate_left
            · (intro w hSw; (try dsimp only at hSw); go_simp; try with_reducible rfl)
            try simp only [Act.put, List.setIfInBounds_toArray, List.set_cons_zero, List.set_cons_succ]
            refine wpAnyH_done (by kernel_rfl) ?_ _
            go_wp2_with fail
            go_ret
            exact ⟨rfl, hbbC.trans (HBE.out.mono hbbC.size)⟩
      · have HSE : Hid (seenL W H (bv, ba) os = seenL W H (bv, ba) (os.filter (fun o => decide (o.id ≠ id)))) := by
          unfold Hid
          rw [List.filter_eq_self.2 (fun o ho => by simpa using (all_mem (P := fun o => o.id ≠ id) os).1 hnone o ho)]
        obtain ⟨hs, HHS⟩ : ∃ hs, Hid (os = hs) := ⟨_, (rfl : _ = _)⟩
        have FH : Hid (Fit hs) := by
          rw [← HHS.out]
          refine fit_of (by omega) (fun o ho => ?_)
          have hg := good_mem HGO.out o ho
          exact ⟨by omega, hg.2⟩
        have hbx5 : Below w5.heap.size w5 (w5.alloc (.cells #[.int .i64 0, .int .i64 0, .int .i64 0, .int .i64 0, .int .i64 0, .slice none 0 0, .int .i64 0, .int .i64 0, .int .i64 0, .int .i64 0, .bool false] 29)) := (Below.refl _ _).alloc (Nat.le_refl _) _
        obtain ⟨wc, HWC⟩ : ∃ wc, Hid (w5.alloc (.cells #[.int .i64 0, .int .i64 0, .int .i64 0, .int .i64 0, .int .i64 0, .slice none 0 0, .int .i64 0, .int .i64 0, .int .i64 0, .int .i64 0, .bool false] 29) = wc) := ⟨_, (rfl : _ = _)⟩
        rw [HWC.out] at hbx5
        have T5 := hid_of2 (T5a.out.on hbx5)
        have hbb5 := hbb5a.trans (hbx5.mono hbb5a.size)
        have HH : Hid (RdO wc (.slice a n cap) hs) := by rw [← HHS.out]; exact HR.out.on hbb5
        rw [show seenL W H (bv, ba) os = seenL W H (bv, ba) hs by rw [HHS.out]] at HSE
        unfold poV objV
        clear hb5 hbx5 T5a hbb5a HR5 hbb4 HR4 T4 hnone
        obtain ⟨ah, ch', hvh, _, _⟩ := HH.out.shape
        obtain ⟨nh, HNH⟩ : ∃ nh, Hid (hs.length = nh) := ⟨_, (rfl : _ = _)⟩
        rw [HNH.out] at hvh
        simp only [Value.slice.injEq] at hvh
        obtain ⟨rfl, rfl, rfl⟩ := hvh
        have hbz5 : Below wc.heap.size wc wc := Below.refl _ _
        go_wp2_with fail
        rw [HWC.out]
        go_loopw [17, 18] (fun o i wr => ∃ (k : Nat) (qs : List (Po × Value)) (oa : Option Addr) (m oc : Nat), k ≤ n ∧ i = .int .i64 k ∧ o = .slice oa m oc ∧ Hid (qs.length = m) ∧ Hid (wr.ownsRow wc.heap.size 29 11 (.slice oa m oc) qs.length (obCells qs)) ∧ Hid (∀ q ∈ qs, RdP w q.2 q.1.ps) ∧ Hid (qs.map Prod.fst = (os.take k).filter (fun o => decide (o.id ≠ id))) ∧ Below wc.heap.size wc wr) (fun _ i _ => n - (intOf i).toNat)
        case atStart => exact ⟨0, [], none, 0, 0, by omega, rfl, rfl, (rfl : _ = _), World.ownsRow_nil _ _ _ _, (by intro q hq; simp at hq), (rfl : _ = _), hbz5⟩
        case round =>
          obtain ⟨k, qs, oa, m, oc, hk, rfl, rfl, HLQ, HO, HP, HF, hbr⟩ := hrel
          have hbrw : Below w.heap.size w wr := hbb5.trans (hbr.mono hbb5.size)
          by_cases hlt : k < n
          · have hlt' : k < os.length := by rw [HN.out]; exact hlt
            have HFT := hid_of2 (flt_take os id k hlt')
            obtain ⟨ob, HX⟩ : ∃ o, Hid (os.getD k po0 = o) := ⟨_, (rfl : _ = _)⟩
            rw [HX.out] at HFT
            obtain ⟨g0, p0, ua0, q0, uc0, ha0, hg0, OC0, HU0, HM0⟩ := HR.out.at hlt HX
            obtain ⟨g, p, ua, q, uc, ha, hg, OC, HU, HM⟩ := (HR.out.on hbrw).at hlt HX
            subst ha
            simp only [Option.some.injEq, Addr.mk.injEq, and_true] at ha0
            obtain ⟨rfl, rfl⟩ := ha0
            have hcu : Value.slice ua q uc = Value.slice ua0 q0 uc0 := by
              have e1 := (hbrw.cell (p := ⟨g, p + k * 11 + 5, none⟩) hg0).trans OC0.c5
              have e2 := OC.c5
              rw [e1] at e2
              exact (Option.some.inj e2).symm
            have HUW : Hid (RdP w (.slice ua q uc) ob.ps) := by rw [hcu]; exact HU0
            clear OC0 HU0 HM0 hg0 hcu
            obtain ⟨c0, c1, c2, c3, c4, c5, c6, c7, c8, c9, c10⟩ := OC
            obtain ⟨id_, x, y, pw, ph, ps, cx, cy, cw, ch, sh⟩ := ob
            simp only at c0 c1 c2 c3 c4 c5 c6 c7 c8 c9 c10 HU HM HUW
            have hm6 : m ≤ 6 := by
              have h1 := congrArg List.length HF.out
              rw [List.length_map, HLQ.out] at h1
              have h2 := List.length_filter_le (fun o : Po => decide (o.id ≠ id)) (os.take k)
              rw [List.length_take] at h2
              omega
            have hki0 : (0 : Int) ≤ (k : Int) := by omega
            have hki1 : (k : Int) < (n : Int) := by omega
            clear hlt' HX hos
            by_cases he : id_ = id
            · have HF2 : Hid (qs.map Prod.fst = (os.take (k + 1)).filter (fun o => decide (o.id ≠ id))) := by
                unfold Hid
                rw [HFT.out, HF.out, if_neg (by simpa using he), List.append_nil]
              subst he
              clear HF HFT
              go_wp2_with fail
              go_roundw
              case rel => exact ⟨k + 1, qs, oa, m, oc, by omega, by go_num, rfl, HLQ, HO, HP, HF2, hbr⟩
              case measure => simp [intOf]; omega
            · have HF2 : Hid ((qs ++ [((⟨id_, x, y, pw, ph, ps, cx, cy, cw, ch, sh⟩ : Po), Value.slice ua q uc)]).map Prod.fst = (os.take (k + 1)).filter (fun o => decide (o.id ≠ id))) := by
                unfold Hid
                rw [HFT.out, List.map_append, HF.out, if_pos (by simpa using he)]
                rfl
              have hne : (id_ != id) = true := by simpa using he
              have hbx : Below wr.heap.size wr (wr.alloc (.cells #[.int .i64 id_, .int .i64 x, .int .i64 y, .int .i64 pw, .int .i64 ph, .slice ua q uc, .int .i64 cx, .int .i64 cy, .int .i64 cw, .int .i64 ch, .bool sh] 29)) := (Below.refl _ _).alloc (Nat.le_refl _) _
              have HO2 := own_on2 HO.out hbx
              rw [HLQ.out] at HO2
              have hbw2 : Below wc.heap.size wc (wr.alloc (.cells #[.int .i64 id_, .int .i64 x, .int .i64 y, .int .i64 pw, .int .i64 ph, .slice ua q uc, .int .i64 cx, .int .i64 cy, .int .i64 cw, .int .i64 ch, .bool sh] 29)) := hbr.alloc hbr.size _
              obtain ⟨v', w3, hr, h1, h2, h3⟩ := run_append_own (P := Try.prog) _ wc.heap.size 22 22 29 i0 (.agg #[.int .i64 0, .int .i64 0, .int .i64 0, .int .i64 0, .int .i64 0, .slice none 0 0, .int .i64 0, .int .i64 0, .int .i64 0, .int .i64 0, .bool false]) 11 104 Try.underlying22 hi hz0 hz1 hz2 rfl (by decide) (.slice oa m oc) m _ HO2 ⟨wr.heap.size, 0, none⟩ 1 1 (oCells ⟨id_, x, y, pw, ph, ps, cx, cy, cw, ch, sh⟩ (.slice ua q uc)) rfl (new_cells wr _ 29) (pix_one _ _ rfl) (by unfold maxLen; omega) (by omega) hbw2.size
              obtain ⟨va', vc', hv'⟩ := own_any h1
              subst hv'
              have HO4 : Hid (w3.ownsRow wc.heap.size 29 11 (.slice va' (m + 1) vc') (qs ++ [((⟨id_, x, y, pw, ph, ps, cx, cy, cw, ch, sh⟩ : Po), Value.slice ua q uc)]).length (obCells (qs ++ [((⟨id_, x, y, pw, ph, ps, cx, cy, cw, ch, sh⟩ : Po), Value.slice ua q uc)]))) := by
                unfold Hid
                rw [obCells_app, List.length_append, HLQ.out]
                simpa [obCells] using h1
              have HP4 : Hid (∀ z ∈ qs ++ [((⟨id_, x, y, pw, ph, ps, cx, cy, cw, ch, sh⟩ : Po), Value.slice ua q uc)], RdP w z.2 z.1.ps) := by
                intro z hz
                rcases List.mem_append.1 hz with hz | hz
                · exact HP.out z hz
                · simp at hz
                  subst hz
                  exact HUW.out
              have hb3 : Below wc.heap.size wc w3 := hbw2.grown h2 hbw2.size (fun z hz => (HO2.lt z hz).1)
              clear h1 h2 h3 HO2 hbx hbw2 HF HFT he
              go_wp2_with (at_builtin; refine Lib.wpList_append_run _ rfl _ _ _ _ rfl _ _ rfl rfl _ _ hr ?_)
              go_roundw
              case rel => exact ⟨k + 1, _, va', m + 1, vc', by omega, by go_num, rfl, (by unfold Hid; rw [List.length_append, HLQ.out]; rfl), HO4, HP4, HF2, hb3⟩
              case measure => simp [intOf]; omega
          · obtain rfl : k = n := by omega
            have hfl : (qs.map Prod.fst) = os.filter (fun o => decide (o.id ≠ id)) := by rw [HF.out, List.take_of_length_le (by rw [HN.out]; exact Nat.le_refl _)]
            have FW : Hid (Fit (qs.map Prod.fst)) := by
              rw [hfl]
              refine fit_of ?_ (fun o ho => ?_)
              · have := List.length_filter_le (fun o : Po => decide (o.id ≠ id)) os
                omega
              · have := good_mem HGO.out o (List.mem_filter.1 ho).1
                omega
            have HSW : Hid (seenL W H (bv, ba) (qs.map Prod.fst) = seenL W H (bv, ba) hs) := by unfold Hid; rw [hfl]; exact HSE.out.symm
            clear hfl HF
            have HOr : Hid (RdO wr (.slice oa m oc) (qs.map Prod.fst)) := rdO_sh HO.out (fun q hq => (HP.out q hq).on hbrw)
            have HHr : Hid (RdO wr (.slice a k cap) hs) := HH.out.on hbr
            obtain ⟨y0, y1, yf0, yf1, ylt⟩ := T5.out.on hbr
            obtain ⟨L1, HL1⟩ : ∃ L1, Hid (seenL W H (bv, ba) hs = L1) := ⟨_, (rfl : _ = _)⟩
            have hL1 : L1.length ≤ 1000 := by
              obtain ⟨PW, PH, e1, e2, _, k2, _, k4, k5, _⟩ := check_zero _ _ _ (seen_check W H bv ba w1' w2' h1' h2' x1 x2 x3 x4 hs (fun o ho => (all_mem (P := fun o => o.fault' = 0) hs).1 FH.out.ok o ho))
              rw [HL1.out] at k5
              have := Nat.mul_le_mul k2 k4
              omega
            have KEEP : Hid (∀ w', Below wr.heap.size wr w' → (w'.cell? ⟨w.heap.size, 0, none⟩ = some (.int .i64 bv) ∧ w'.cell? ⟨w.heap.size, 1, none⟩ = some (.int .i64 ba))) := by
              intro w' h
              exact ⟨by rw [h.cell (p := ⟨w.heap.size, 0, none⟩) ylt]; exact y0, by rw [h.cell (p := ⟨w.heap.size, 1, none⟩) ylt]; exact y1⟩
            have HHd : Hid (RdO wr.drew (.slice a k cap) hs) := HHr.out.on (Below.refl _ _).drew
            clear y0 y1 yf0 yf1 HHr HO HP
            go_wp2_with fail
            refine wp_region_held_drew (S := (fun w' => w'.cell? ⟨w.heap.size, 0, none⟩ = some (.int .i64 bv) ∧ w'.cell? ⟨w.heap.size, 1, none⟩ = some (.int .i64 ba))) (by kernel_rfl) ?_ (fun hHeld => ?_)
            · exact KEEP.out _ (Below.refl _ _).drew
            refine wpAnyH_take (i := 0) (oi := ({ dst := some 104, op := Op.move (Operand.tmp 14), type := 22, pos := "parts.go:294", after := #[], guard := none } : Oper)) (v := ?_) rfl (by kernel_rfl) (by kernel_rfl) (by kernel_rfl) (fun _ _ _ h => h) (Or.inl ⟨by rfl, ?_⟩) (by assumption) ?_
            rotate_left
            · (intro w hSw; (try dsimp only at hSw); go_simp; try with_reducible rfl)
            try simp only [Act.put, List.setIfInBounds_toArray, List.set_cons_zero, List.set_cons_succ]
            refine wpAnyH_take (i := 1) (oi := ({ dst := some 105, op := Op.move (Operand.tmp 2), type := 3, pos := "parts.go:294", after := #[], guard := none } : Oper)) (v := ?_) rfl (by kernel_rfl) (by kernel_rfl) (by kernel_rfl) (fun _ _ _ h => h) (Or.inl ⟨by rfl, ?_⟩) (by assumption) ?_
            rotate_left
            · (intro w hSw; (try dsimp only at hSw); go_simp; try with_reducible rfl)
            try simp only [Act.put, List.setIfInBounds_toArray, List.set_cons_zero, List.set_cons_succ]
            refine wpAnyH_take (i := 2) (oi := ({ dst := some 106, op := Op.move (Operand.tmp 3), type := 3, pos := "parts.go:294", after := #[], guard := none } : Oper)) (v := ?_) rfl (by kernel_rfl) (by kernel_rfl) (by kernel_rfl) (fun _ _ _ h => h) (Or.inl ⟨by rfl, ?_⟩) (by assumption) ?_
            rotate_left
            · (intro w hSw; (try dsimp only at hSw); go_simp; try with_reducible rfl)
            try simp only [Act.put, List.setIfInBounds_toArray, List.set_cons_zero, List.set_cons_succ]
            refine wpAnyH_take (i := 3) (oi := ({ dst := some 107, op := Op.load 33 (Operand.tmp 10), type := 33, pos := "parts.go:294", after := #[], guard := none } : Oper)) (v := ?_) rfl (by kernel_rfl) (by kernel_rfl) (by kernel_rfl) (fun _ _ _ h => h) (Or.inl ⟨by rfl, ?_⟩) (by assumption) ?_
            rotate_left
            · (intro w hSw; (try dsimp only at hSw); go_simp; try with_reducible rfl)
            try simp only [Act.put, List.setIfInBounds_toArray, List.set_cons_zero, List.set_cons_succ]
            refine wpAnyH_take (i := 5) (oi := ({ dst := some 109, op := Op.move (Operand.tmp 17), type := 22, pos := "parts.go:294", after := #[], guard := none } : Oper)) (v := ?_) rfl (by kernel_rfl) (by kernel_rfl) (by kernel_rfl) (fun _ _ _ h => h) (Or.inl ⟨by rfl, ?_⟩) (by assumption) ?_
            rotate_left
            · (intro w hSw; (try dsimp only at hSw); go_simp; try with_reducible rfl)
            try simp only [Act.put, List.setIfInBounds_toArray, List.set_cons_zero, List.set_cons_succ]
            refine wpAnyH_take (i := 6) (oi := ({ dst := some 110, op := Op.move (Operand.tmp 2), type := 3, pos := "parts.go:294", after := #[], guard := none } : Oper)) (v := ?_) rfl (by kernel_rfl) (by kernel_rfl) (by kernel_rfl) (fun _ _ _ h => h) (Or.inl ⟨by rfl, ?_⟩) (by assumption) ?_
            rotate_left
            · (intro w hSw; (try dsimp only at hSw); go_simp; try with_reducible rfl)
            try simp only [Act.put, List.setIfInBounds_toArray, List.set_cons_zero, List.set_cons_succ]
            refine wpAnyH_take (i := 7) (oi := ({ dst := some 111, op := Op.move (Operand.tmp 3), type := 3, pos := "parts.go:294", after := #[], guard := none } : Oper)) (v := ?_) rfl (by kernel_rfl) (by kernel_rfl) (by kernel_rfl) (fun _ _ _ h => h) (Or.inl ⟨by rfl, ?_⟩) (by assumption) ?_
            rotate_left
            · (intro w hSw; (try dsimp only at hSw); go_simp; try with_reducible rfl)
            try simp only [Act.put, List.setIfInBounds_toArray, List.set_cons_zero, List.set_cons_succ]
            refine wpAnyH_take (i := 8) (oi := ({ dst := some 112, op := Op.load 33 (Operand.tmp 10), type := 33, pos := "parts.go:294", after := #[], guard := none } : Oper)) (v := ?_) rfl (by kernel_rfl) (by kernel_rfl) (by kernel_rfl) (fun _ _ _ h => h) (Or.inl ⟨by rfl, ?_⟩) (by assumption) ?_
            rotate_left
            · (intro w hSw; (try dsimp only at hSw); go_simp; try with_reducible rfl)
            try simp only [Act.put, List.setIfInBounds_toArray, List.set_cons_zero, List.set_cons_succ]
            refine wpAnyH_ready (rs := [4]) (by kernel_rfl) (by simp) ?_
            refine AllReadyH.cons (o := ({ dst := some 108, op := Op.call { callee := Callee.value (Operand.func 23), args := #[Operand.tmp 104, Operand.tmp 105, Operand.tmp 106, Operand.tmp 107], argTypes := #[22, 3, 3, 33] }, type := 25, pos := "parts.go:294", after := #[{ on := 0, ground := Ground.data }, { on := 1, ground := Ground.data }, { on := 2, ground := Ground.data }, { on := 3, ground := Ground.data }], guard := none } : Oper)) rfl (fun K_ hK => ?_) AllReadyH.nil
            go_simp
            refine (seen_any _ hs W H bv ba wr.drew FH.out.few FH.out.pix FH.out.ok HHd w1' w2' h1' h2' x1 x2 x3 x4).mono ?_
            unfold picV
            rintro e w6 ⟨u6, rfl, hr6, hb6⟩
            rw [HL1.out] at hr6
            have HR6 := hid_of2 hr6
            have HB6 : Hid (Below wr.heap.size wr w6) := ⟨hb6.os, hb6.tape, hb6.output, hb6.size, hb6.block⟩
            have HO6 : Hid (RdO w6 (.slice oa m oc) (qs.map Prod.fst)) := HOr.out.on HB6.out
            clear hr6 hb6 HHd HOr
            refine hK.out _ _ ?_ (fun hHeld => ?_)
            · exact KEEP.out _ HB6.out
            clear hK K_
            try simp only [Act.put, List.setIfInBounds_toArray, List.set_cons_zero, List.set_cons_succ]
            refine wpAnyH_ready (rs := [9]) (by kernel_rfl) (by simp) ?_
            refine AllReadyH.cons (o := ({ dst := some 113, op := Op.call { callee := Callee.value (Operand.func 23), args := #[Operand.tmp 109, Operand.tmp 110, Operand.tmp 111, Operand.tmp 112], argTypes := #[22, 3, 3, 33] }, type := 25, pos := "parts.go:294", after := #[{ on := 5, ground := Ground.data }, { on := 6, ground := Ground.data }, { on := 7, ground := Ground.data }, { on := 8, ground := Ground.data }, { on := 4, ground := Ground.chain }], guard := none } : Oper)) rfl (fun K_ hK => ?_) AllReadyH.nil
            go_simp
            refine (seen_any _ (qs.map Prod.fst) W H bv ba w6 FW.out.few FW.out.pix FW.out.ok HO6 w1' w2' h1' h2' x1 x2 x3 x4).mono ?_
            unfold picV
            rintro e w7 ⟨u7, rfl, hr7, hb7⟩
            rw [HSW.out, HL1.out] at hr7
            have HR7 := hid_of2 hr7
            have HR67 := hid_of2 (HR6.out.on hb7)
            have HB7 : Hid (Below wr.heap.size wr w7) := HB6.out.trans (hb7.mono HB6.out.size)
            clear hr7 hb7 HO6 HR6
            refine hK.out _ _ ?_ (fun hHeld => ?_)
            · exact KEEP.out _ HB7.out
            clear hK K_
            try simp only [Act.put, List.setIfInBounds_toArray, List.set_cons_zero, List.set_cons_succ]
            refine wpAnyH_ready (rs := [10]) (by kernel_rfl) (by simp) ?_
            refine AllReadyH.cons (o := ({ dst := some 114, op := Op.call { callee := Callee.value (Operand.func 22), args := #[Operand.tmp 108, Operand.tmp 113], argTypes := #[25, 25] }, type := 4, pos := "parts.go:294", after := #[{ on := 4, ground := Ground.data }, { on := 9, ground := Ground.data }, { on := 9, ground := Ground.chain }], guard := none } : Oper)) rfl (fun K_ hK => ?_) AllReadyH.nil
            go_simp
            refine (samePic_any W H u6 u7 L1 w7 hL1 HR67 HR7).mono ?_
            rintro e w8 ⟨rfl, hb8⟩
            have HB8 : Hid (Below wr.heap.size wr w8) := HB7.out.trans (hb8.mono HB7.out.size)
            clear hb8 HR67 HR7
            refine hK.out _ _ ?_ (fun hHeld => ?_)
            · exact KEEP.out _ HB8.out
            clear hK K_
            try simp only [Act.put, List.setIfInBounds_toArray, List.set_cons_zero, List.set_cons_succ]
            refine wpAnyH_take (i := 11) (oi := ({ dst := some 115, op := Op.unOp UnOp.not 4 (Operand.tmp 114), type := 4, pos := "parts.go:294", after := #[{ on := 10, ground := Ground.data }], guard := none } : Oper)) (v := ?_) rfl (by kernel_rfl) (by kernel_rfl) (by kernel_rfl) (fun _ _ _ h => h) (Or.inl ⟨by rfl, ?_⟩) (by assumption) ?_
            rotate_left
            · (intro w hSw; (try dsimp only at hSw); go_simp; try with_reducible rfl)
            try simp only [Act.put, List.setIfInBounds_toArray, List.set_cons_zero, List.set_cons_succ]
            refine wpAnyH_done (by kernel_rfl) ?_ _
            have T8 := hid_of2 (T5.out.on (hbr.trans (HB8.out.mono hbr.size)))
            have hbb8 := hbrw.trans (HB8.out.mono hbrw.size)
            clear HB7 HB8 HB6 KEEP hbrw hbr
            go_wp2_with fail
            refine (plainO_any W H vv 255 w1' w2' h1' h2' _).mono ?_
            unfold picV
            rintro e w9 ⟨u9, rfl, ho9, hb9⟩
            have hbb9 := hbb8.trans (hb9.mono hbb8.size)
            have hm1 : 1 * 1 ≤ W * H := Nat.mul_le_mul w1' h1'
            have hm8 : W * H ≤ 8 * 8 := Nat.mul_le_mul w2' h2'
            obtain ⟨LA, HLA⟩ : ∃ LA, Hid (List.replicate (W * H) (vv, (255 : Int)) = LA) := ⟨_, (rfl : _ = _)⟩
            have hLA : LA.length ≤ 100 := by rw [← HLA.out, List.length_replicate]; omega
            have HR9 : Hid (RdP w9 u9 LA) := by rw [← HLA.out]; exact rdP_own (by rw [List.length_replicate]; exact ho9)
            have T9 := hid_of2 (T8.out.on hb9)
            obtain ⟨a9, c9, hu9, _, _, _⟩ := HR9.out
            obtain ⟨n9, HN9⟩ : ∃ n9, Hid (LA.length = n9) := ⟨_, (rfl : _ = _)⟩
            rw [HN9.out] at hu9
            subst hu9
            clear ho9 hb9 hbb8 T8
            have hbx9 : Below w9.heap.size w9 (w9.alloc (.cells #[.int .i64 (W : Int), .int .i64 (H : Int), .slice a9 n9 c9] 25)) := (Below.refl _ _).alloc (Nat.le_refl _) _
            have P9 := hid_of2 (three_begin w9 (.int .i64 (W : Int)) (.int .i64 (H : Int)) (.slice a9 n9 c9) 25 w9.heap.size rfl)
            have HRA := hid_of2 (HR9.out.on hbx9)
            have TA := hid_of2 (T9.out.on hbx9)
            have hbbA := hbb9.trans (hbx9.mono hbb9.size)
            clear hbx9 HR9 T9 hbb9
            go_wp2_with fail
            generalize w9.alloc (.cells #[.int .i64 (W : Int), .int .i64 (H : Int), .slice a9 n9 c9] 25) = XA at *
            generalize w9.heap.size = b9 at *
            refine (fresh_any 6 W H _ LA _ hLA HRA).mono ?_
            unfold objV
            rintro e wB ⟨uB, rfl, hoB, hbB⟩
            have HRB := hid_of2 (rdP_own hoB)
            have PB := hid_of2 (P9.out.on hbB)
            have HRAB := hid_of2 (HRA.out.on hbB)
            have TB := hid_of2 (TA.out.on hbB)
            have hbbB := hbbA.trans (hbB.mono hbbA.size)
            have HROB : Hid (RdO wB (.slice a k cap) os) := HR.out.on hbbB
            obtain ⟨aB, cB, huB, _, _, _⟩ := HRB.out
            rw [HN9.out] at huB
            subst huB
            clear hoB hbB P9 HRA TA hbbA
            obtain ⟨x6, HX6⟩ : ∃ x6 : Po, Hid (x6 = ⟨6, 0, 0, (W : Int), (H : Int), LA, 0, 0, 20, 20, true⟩) := ⟨_, (rfl : _ = _)⟩
            go_wp2_with fail
            have hset := set_any (.slice a k cap) os x6 (.slice aB n9 cB) wB (by omega) (fun j hj => by have := HGO.out.pix j hj; omega) (by rw [HX6.out]; exact hLA) HGO.out.sort HROB (by rw [HX6.out]; exact HRB)
            unfold poV objV at hset
            rw [HX6.out] at hset
            refine hset.mono ?_
            clear hset
            rintro e wC ⟨vC, qc, rfl, hoC, hqC, hbC⟩
            have hx6 : x6.fault' = 0 := by
              rw [HX6.out, ← HLA.out]
              show objC 6 0 0 (W : Int) (H : Int) (List.replicate (W * H) (vv, 255)) 0 0 20 20 = 0
              unfold objC
              rw [if_neg (by omega), if_neg (by decide), if_neg (by decide)]
              exact check_plain W H vv 255 w1' w2' h1' h2' (by omega) (by omega) (by omega) (by omega)
            have FC : Hid (Fit (qc.map Prod.fst)) := by
              rw [hqC, ← HX6.out]
              refine fit_of ?_ (fun o ho => ?_)
              · have := setO_len x6 os
                omega
              · rcases setO_mem x6 os o ho with h | h
                · rw [h]
                  exact ⟨by rw [HX6.out]; exact hLA, hx6⟩
                · have := good_mem HGO.out o h
                  omega
            have HSC : Hid (seenL W H (bv, ba) (qc.map Prod.fst) = LA) := by
              unfold Hid
              rw [hqC, ← HX6.out]
              obtain ⟨pre, e, hm⟩ := setO_last x6 os HGO.out.sort (fun o ho => by
                have h := (good_mem HGO.out o ho).2
                have h2 := (objC_zero _ _ _ _ _ _ _ _ _ _ h).2.1
                rw [HX6.out]
                exact h2)
              have hck := seen_check W H bv ba w1' w2' h1' h2' x1 x2 x3 x4 pre (fun o ho => (good_mem HGO.out o (hm o ho)).2)
              rw [e]
              unfold seenL at hck ⊢
              rw [List.foldl_append]
              obtain ⟨PW, PH, e1, e2, _, _, _, _, k5, _⟩ := check_zero _ _ _ hck
              obtain rfl : PW = W := by omega
              obtain rfl : PH = H := by omega
              simp only [List.foldl_cons, List.foldl_nil]
              rw [HX6.out, ← HLA.out]
              exact lay_all PW PH w1' w2' h1' h2' vv _ k5
            have HROC := hid_of2 hoC.rd
            have PC := hid_of2 (PB.out.on hbC)
            have HRAC := hid_of2 (HRAB.out.on hbC)
            have TC := hid_of2 (TB.out.on hbC)
            have hbbC := hbbB.trans (hbC.mono hbbB.size)
            obtain ⟨aC, cC, hvC, _, _⟩ := HROC.out.shape
            obtain ⟨nC, HNC⟩ : ∃ nC, Hid ((qc.map Prod.fst).length = nC) := ⟨_, (rfl : _ = _)⟩
            rw [HNC.out] at hvC
            subst hvC
            clear hoC hqC hbC PB HRAB TB hbbB HRB HROB hx6
            obtain ⟨z0, z1, zf0, zf1, zlt⟩ := TC.out
            obtain ⟨s0, s1, s2, sf0, sf1, sf2, slt⟩ := PC.out
            have KEEP : Hid (∀ w', Below wC.heap.size wC w' → (w'.cell? ⟨w.heap.size, 0, none⟩ = some (.int .i64 bv) ∧ w'.cell? ⟨w.heap.size, 1, none⟩ = some (.int .i64 ba) ∧ w'.cell? ⟨b9, 0, none⟩ = some (.int .i64 (W : Int)) ∧ w'.cell? ⟨b9, 1, none⟩ = some (.int .i64 (H : Int)) ∧ w'.cell? ⟨b9, 2, none⟩ = some (.slice a9 n9 c9))) := by
              intro w' h
              exact ⟨by rw [h.cell (p := ⟨w.heap.size, 0, none⟩) zlt]; exact z0, by rw [h.cell (p := ⟨w.heap.size, 1, none⟩) zlt]; exact z1, by rw [h.cell (p := ⟨b9, 0, none⟩) slt]; exact s0, by rw [h.cell (p := ⟨b9, 1, none⟩) slt]; exact s1, by rw [h.cell (p := ⟨b9, 2, none⟩) slt]; exact s2⟩
            have HROd : Hid (RdO wC.drew (.slice aC nC cC) (qc.map Prod.fst)) := HROC.out.on (Below.refl _ _).drew
            clear z0 z1 zf0 zf1 zlt s0 s1 s2 sf0 sf1 sf2 slt HROC
            go_wp2_with fail
            refine wp_region_held_drew (S := (fun w' => w'.cell? ⟨w.heap.size, 0, none⟩ = some (.int .i64 bv) ∧ w'.cell? ⟨w.heap.size, 1, none⟩ = some (.int .i64 ba) ∧ w'.cell? ⟨b9, 0, none⟩ = some (.int .i64 (W : Int)) ∧ w'.cell? ⟨b9, 1, none⟩ = some (.int .i64 (H : Int)) ∧ w'.cell? ⟨b9, 2, none⟩ = some (.slice a9 n9 c9))) (by kernel_rfl) ?_ (fun hHeld => ?_)
            · exact KEEP.out _ (Below.refl _ _).drew
            refine wpAnyH_take (i := 0) (oi := ({ dst := some 125, op := Op.move (Operand.tmp 20), type := 22, pos := "parts.go:299", after := #[], guard := none } : Oper)) (v := ?_) rfl (by kernel_rfl) (by kernel_rfl) (by kernel_rfl) (fun _ _ _ h => h) (Or.inl ⟨by rfl, ?_⟩) (by assumption) ?_
            rotate_left
            · (intro w hSw; (try dsimp only at hSw); go_simp; try with_reducible rfl)
            try simp only [Act.put, List.setIfInBounds_toArray, List.set_cons_zero, List.set_cons_succ]
            refine wpAnyH_take (i := 1) (oi := ({ dst := some 126, op := Op.move (Operand.tmp 2), type := 3, pos := "parts.go:299", after := #[], guard := none } : Oper)) (v := ?_) rfl (by kernel_rfl) (by kernel_rfl) (by kernel_rfl) (fun _ _ _ h => h) (Or.inl ⟨by rfl, ?_⟩) (by assumption) ?_
            rotate_left
            · (intro w hSw; (try dsimp only at hSw); go_simp; try with_reducible rfl)
            try simp only [Act.put, List.setIfInBounds_toArray, List.set_cons_zero, List.set_cons_succ]
            refine wpAnyH_take (i := 2) (oi := ({ dst := some 127, op := Op.move (Operand.tmp 3), type := 3, pos := "parts.go:299", after := #[], guard := none } : Oper)) (v := ?_) rfl (by kernel_rfl) (by kernel_rfl) (by kernel_rfl) (fun _ _ _ h => h) (Or.inl ⟨by rfl, ?_⟩) (by assumption) ?_
            rotate_left
            · (intro w hSw; (try dsimp only at hSw); go_simp; try with_reducible rfl)
            try simp only [Act.put, List.setIfInBounds_toArray, List.set_cons_zero, List.set_cons_succ]
            refine wpAnyH_take (i := 3) (oi := ({ dst := some 128, op := Op.load 33 (Operand.tmp 10), type := 33, pos := "parts.go:299", after := #[], guard := none } : Oper)) (v := ?_) rfl (by kernel_rfl) (by kernel_rfl) (by kernel_rfl) (fun _ _ _ h => h) (Or.inl ⟨by rfl, ?_⟩) (by assumption) ?_
            rotate_left
            · (intro w hSw; (try dsimp only at hSw); go_simp; try with_reducible rfl)
            try simp only [Act.put, List.setIfInBounds_toArray, List.set_cons_zero, List.set_cons_succ]
            refine wpAnyH_take (i := 5) (oi := ({ dst := some 130, op := Op.load 25 (Operand.tmp 19), type := 25, pos := "parts.go:299", after := #[], guard := none } : Oper)) (v := ?_) rfl (by kernel_rfl) (by kernel_rfl) (by kernel_rfl) (fun _ _ _ h => h) (Or.inl ⟨by rfl, ?_⟩) (by assumption) ?_
            rotate_left
            · (intro w hSw; (try dsimp only at hSw); go_simp; try with_reducible rfl)
            try simp only [Act.put, List.setIfInBounds_toArray, List.set_cons_zero, List.set_cons_succ]
            refine wpAnyH_ready (rs := [4]) (by kernel_rfl) (by simp) ?_
            refine AllReadyH.cons (o := ({ dst := some 129, op := Op.call { callee := Callee.value (Operand.func 23), args := #[Operand.tmp 125, Operand.tmp 126, Operand.tmp 127, Operand.tmp 128], argTypes := #[22, 3, 3, 33] }, type := 25, pos := "parts.go:299", after := #[{ on := 0, ground := Ground.data }, { on := 1, ground := Ground.data }, { on := 2, ground := Ground.data }, { on := 3, ground := Ground.data }], guard := none } : Oper)) rfl (fun K_ hK => ?_) AllReadyH.nil
            go_simp
            refine (seen_any _ (qc.map Prod.fst) W H bv ba wC.drew FC.out.few FC.out.pix FC.out.ok HROd w1' w2' h1' h2' x1 x2 x3 x4).mono ?_
            unfold picV
            rintro e wD ⟨uD, rfl, hrD, hbD⟩
            rw [HSC.out] at hrD
            have HRD := hid_of2 hrD
            have HBD : Hid (Below wC.heap.size wC wD) := ⟨hbD.os, hbD.tape, hbD.output, hbD.size, hbD.block⟩
            have HRAD := hid_of2 (HRAC.out.on HBD.out)
            clear hrD hbD HROd HRAC
            refine hK.out _ _ ?_ (fun hHeld => ?_)
            · exact KEEP.out _ HBD.out
            clear hK K_
            try simp only [Act.put, List.setIfInBounds_toArray, List.set_cons_zero, List.set_cons_succ]
            refine wpAnyH_ready (rs := [6]) (by kernel_rfl) (by simp) ?_
            refine AllReadyH.cons (o := ({ dst := some 131, op := Op.call { callee := Callee.value (Operand.func 22), args := #[Operand.tmp 129, Operand.tmp 130], argTypes := #[25, 25] }, type := 4, pos := "parts.go:299", after := #[{ on := 4, ground := Ground.data }, { on := 5, ground := Ground.data }, { on := 4, ground := Ground.chain }], guard := none } : Oper)) rfl (fun K_ hK => ?_) AllReadyH.nil
            go_simp
            refine (samePic_any W H uD _ LA wD (by omega) HRD HRAD).mono ?_
            rintro e wE ⟨rfl, hbE⟩
            have HBE : Hid (Below wC.heap.size wC wE) := HBD.out.trans (hbE.mono HBD.out.size)
            clear hbE HRD HRAD
            refine hK.out _ _ ?_ (fun hHeld => ?_)
            · exact KEEP.out _ HBE.out
            clear hK K_
            try simp only [Act.put, List.setIfInBounds_toArray, List.set_cons_zero, List.set_cons_succ]
            refine wpAnyH_take (i := 7) (oi := ({ dst := some 12, op := Op.assign (Operand.tmp 131), type := 4, pos := "parts.go:299", after := #[{ on := 6, ground := Ground.data }, { on := 6, ground := Ground.chain }, { on := 0, ground := Ground.phase }, { on := 1, ground := Ground.phase }, { on := 2, ground := Ground.phase }, { on := 3, ground := Ground.phase }, { on := 4, ground := Ground.phase }, { on := 5, ground := Ground.phase }, { on := 6, ground := Ground.phase }], guard := none } : Oper)) (v := ?_) rfl (by kernel_rfl) (by kernel_rfl) (by kernel_rfl) (fun _ _ _ h => h) (Or.inl ⟨by rfl, ?_⟩) (by assumption) ?_
            rotate_left
            · (intro w hSw; (try dsimp only at hSw); go_simp; try with_reducible rfl)
            try simp only [Act.put, List.setIfInBounds_toArray, List.set_cons_zero, List.set_cons_succ]
            refine wpAnyH_done (by kernel_rfl) ?_ _
            go_wp2_with fail
            go_ret
            exact ⟨rfl, hbbC.trans (HBE.out.mono hbbC.size)⟩
end Go.Proofs.Ytadcmmkifcmknaa
