/- The document's Trimmed walked. -/
import Derived.Test.YtnjnelfmfijgjadTrimB
import Derived.Deep.RegionHeld3
namespace Go.Proofs.Ytnjnelfmfijgjad
open Go.RowKit

theorem row_rd {w : World} {B : Nat} {v : Value} {qs : List (Pf × Value)} (h : w.ownsRow B 28 4 v qs.length (frCells qs)) (hp : ∀ q ∈ qs, RdP w q.2 q.1.ps) : RdF w v (qs.map Prod.fst) := by
  rcases h.2 with ⟨rfl, h0⟩ | ⟨g, cap, cur, rfl, hb, hg, hn, hm, hs, ht⟩
  · have : qs = [] := List.length_eq_zero_iff.1 h0
    subst this
    exact ⟨none, 0, rfl, by simp, by omega, fun h => absurd rfl h⟩
  · unfold maxLen at hm
    refine ⟨some ⟨g, 0, none⟩, cap, by simp, by simpa using hn, by omega, fun hne => ⟨g, 0, rfl, ?_, fun j hj => ?_⟩⟩
    · rcases Nat.lt_or_ge g w.heap.size with h1 | h1
      · exact h1
      · rw [Array.getElem?_eq_none h1] at hg; cases hg
    · rw [List.length_map] at hj
      obtain ⟨c0, c1, c2, c3⟩ := frCells_at qs j hj
      have e : (qs.map Prod.fst).getD j pf0 = (qs.getD j q0).1 := by
        simp [List.getD_eq_getElem?_getD, List.getElem?_eq_getElem hj]
      have hmem : qs.getD j q0 ∈ qs := by
        rw [List.getD_eq_getElem?_getD, List.getElem?_eq_getElem hj]
        simp
      rw [e]
      have hc := fun x (hx : x < 4) => h.cellAt (j * 4 + x) (by omega)
      refine ⟨(qs.getD j q0).2, ?_, ?_, ?_, ?_, hp _ hmem⟩
      · have := hc 0 (by omega); rw [Nat.add_zero] at this; rw [Nat.zero_add, this]; exact c0
      · rw [Nat.zero_add, hc 1 (by omega)]; exact c1
      · rw [Nat.zero_add, hc 2 (by omega)]; exact c2
      · rw [Nat.zero_add, hc 3 (by omega)]; exact c3

theorem row_set {w : World} {B g n cap : Nat} {qs : List (Pf × Value)} (h : w.ownsRow B 28 4 (.slice (some ⟨g, 0, none⟩) n cap) qs.length (frCells qs)) {j : Nat} (hj : j < qs.length) (d : Int) :
    (w.setCell ⟨g, j * 4 + 3, none⟩ (.int .i64 ((qs.getD j q0).1.d + d))).ownsRow B 28 4 (.slice (some ⟨g, 0, none⟩) n cap) (qs.set j ((qs.getD j q0).1.more d, (qs.getD j q0).2)).length (frCells (qs.set j ((qs.getD j q0).1.more d, (qs.getD j q0).2))) := by
  have hn : qs.length = n := by
    rcases h.2 with ⟨h', _⟩ | ⟨g', cap', cur, h', _⟩
    · simp at h'
    · simp only [Value.slice.injEq] at h'
      exact h'.2.1.symm
  subst hn
  obtain ⟨h1, h2⟩ := h.stored (j * 4 + 3) (.int .i64 ((qs.getD j q0).1.d + d))
  rw [frCells_setd qs j d hj] at h1
  rw [List.length_set]
  exact h1

set_option maxHeartbeats 2000000 in
set_option maxRecDepth 100000 in
theorem trimR_any (v : Value) (fs : List Pf) (w : World) (HR : Hid (RdF w v fs)) (HG : Hid (GoodF fs)) :
    Calls Try.prog 13 #[v] w fun e w' => ∃ v', e = .returned v' ∧ RdF w' v' (trimC fs) ∧ Below w.heap.size w w' := by
  obtain ⟨i0, hi, hz0, hz1, hz2⟩ := info_parts Try.infoFr
  obtain ⟨a, cap, hv, hl, hm⟩ := HR.out.shape
  obtain ⟨n, HN⟩ : ∃ n, Hid (fs.length = n) := ⟨_, (rfl : _ = _)⟩
  rw [HN.out] at hv hl
  have hn : n ≤ 1000 := by rw [← HN.out]; exact HG.out.many
  subst hv
  have hbz : Below w.heap.size w w := Below.refl _ _
  go_enter Try.func13, Try.ntmps13
  go_wp2_with fail
  go_loopw [3, 4] (fun o i wr => ∃ (k : Nat) (qs : List (Pf × Value)), k ≤ n ∧ i = .int .i64 k ∧ Hid (wr.ownsRow w.heap.size 28 4 o qs.length (frCells qs)) ∧ Hid (∀ x ∈ qs, RdP w x.2 x.1.ps) ∧ Hid (qs.map Prod.fst = trimC (fs.take k)) ∧ Below w.heap.size w wr) (fun _ i _ => n - (intOf i).toNat)
  case atStart => exact ⟨0, [], by omega, rfl, World.ownsRow_nil _ _ _ _, fun x hx => by simp at hx, (rfl : _ = _), hbz⟩
  case round =>
    obtain ⟨k, qs, hk, rfl, HO, HP, HQ, hbr⟩ := hrel
    rename_i o _
    obtain ⟨oa, oc, ho⟩ := own_any HO.out
    by_cases hlt : k < n
    · have hlt' : k < fs.length := by rw [HN.out]; exact hlt
      obtain ⟨f, HF⟩ : ∃ f, Hid (fs.getD k pf0 = f) := ⟨_, (rfl : _ = _)⟩
      have hfd : 0 ≤ f.d := by rw [← HF.out]; exact HG.out.low _ (getD_mem hlt')
      have hfp : f.ps.length ≤ 80 := by rw [← HF.out]; exact HG.out.pix _ (getD_mem hlt')
      obtain ⟨g, p, ua, q, uc, rfl, hg, e0, e1, e2, e3, HU, HM⟩ := HR.out.at hlt HF
      have c0 : wr.cell? ⟨g, p + k * 4, none⟩ = some (.int .i64 f.W) := by rw [hbr.cell (p := ⟨g, p + k * 4, none⟩) hg]; exact e0
      have c1 : wr.cell? ⟨g, p + k * 4 + 1, none⟩ = some (.int .i64 f.H) := by rw [hbr.cell (p := ⟨g, p + k * 4 + 1, none⟩) hg]; exact e1
      have c2 : wr.cell? ⟨g, p + k * 4 + 2, none⟩ = some (.slice ua q uc) := by rw [hbr.cell (p := ⟨g, p + k * 4 + 2, none⟩) hg]; exact e2
      have c3 : wr.cell? ⟨g, p + k * 4 + 3, none⟩ = some (.int .i64 f.d) := by rw [hbr.cell (p := ⟨g, p + k * 4 + 3, none⟩) hg]; exact e3
      have HT : Hid (trimC (fs.take (k + 1)) = trimStep (qs.map Prod.fst) f) := by unfold Hid; rw [trimC_next hlt', HF.out, HQ.out]
      obtain ⟨m, HLQ⟩ : ∃ m, Hid (qs.length = m) := ⟨_, (rfl : _ = _)⟩
      have hm1 : m ≤ 1000 := by
        have h1 := (trim_small fs (fun _ => True) (fun _ _ => trivial) k (by omega)).1
        rw [← HQ.out, List.length_map, HLQ.out] at h1
        omega
      rw [HLQ.out] at ho
      subst ho
      obtain ⟨fW, fH, fp, fd⟩ := f
      simp only at c0 c1 c2 c3 hfd hfp HU HM
      clear hlt' e0 e1 e2 e3
      by_cases hd : fd = 0
      · subst hd
        have HQ2 : Hid (qs.map Prod.fst = trimC (fs.take (k + 1))) := by unfold Hid; rw [HT.out]; simp [trimStep]
        go_wp2_with fail
        go_roundw
        case rel => exact ⟨k + 1, qs, by omega, by go_num, HO, HP, HQ2, hbr⟩
        case measure => simp [intOf]; omega
      · have hdn : (fd == 0) = false := by simp [hd]
        cases m with
        | zero =>
          have HOY := HO
          have hbY := hbr
          have HQ2 : Hid (∀ u, (qs ++ [((⟨fW, fH, fp, fd⟩ : Pf), u)]).map Prod.fst = trimC (fs.take (k + 1))) := by
            intro u
            have hq : qs = [] := List.length_eq_zero_iff.1 HLQ.out
            rw [HT.out, hq]
            simp [trimStep, hd]
          clear HT HO
          have g0 : ∀ j u, [Value.int .i64 fW, .int .i64 fH, .slice ua q uc, .int .i64 fd][j]? = some u → (wr.alloc (.cells #[.int .i64 fW, .int .i64 fH, .slice ua q uc, .int .i64 fd] 28)).cell? ((⟨wr.heap.size, 0, none⟩ : Addr).add j) = some u := by
            intro j u hj
            match j, hj with
            | 0, hj => simp at hj; subst hj; simp [Addr.add]
            | 1, hj => simp at hj; subst hj; simp [Addr.add]
            | 2, hj => simp at hj; subst hj; simp [Addr.add]
            | 3, hj => simp at hj; subst hj; simp [Addr.add]
            | j + 4, hj => simp at hj
          have hbA : Below w.heap.size w (wr.alloc (.cells #[.int .i64 fW, .int .i64 fH, .slice ua q uc, .int .i64 fd] 28)) := hbY.alloc hbY.size _
          have HOA : Hid ((wr.alloc (.cells #[.int .i64 fW, .int .i64 fH, .slice ua q uc, .int .i64 fd] 28)).ownsRow w.heap.size 28 4 (.slice oa 0 oc) qs.length (frCells qs)) := HOY.out.alloc _
          go_wp2_with (at_builtin; refine wpList_append_own _ rfl _ _ 22 rfl w.heap.size 28 i0 (.agg #[.int .i64 0, .int .i64 0, .slice none 0 0, .int .i64 0]) 4 48 Try.underlying22 hi hz0 hz1 hz2 rfl (by decide) _ _ _ rfl HOA.out ⟨wr.heap.size, 0, none⟩ 1 1 [.int .i64 fW, .int .i64 fH, .slice ua q uc, .int .i64 fd] rfl rfl ?c1 ?c2 ?c3 ?c4 ?c5 ?_)
          case c1 => exact g0
          case c2 => intro u hu; simp at hu; rcases hu with rfl | rfl | rfl | rfl <;> rfl
          case c3 => unfold maxLen; rw [HLQ.out]; omega
          case c4 => rw [HLQ.out]; omega
          case c5 => exact hbA.size
          · intro v' w3 hown' hgrow _
            have hb3 : Below w.heap.size w w3 := hbA.grown hgrow hbA.size (fun x hx => (HOA.out.lt x hx).1)
            have HO3 : Hid (w3.ownsRow w.heap.size 28 4 v' (qs ++ [((⟨fW, fH, fp, fd⟩ : Pf), Value.slice ua q uc)]).length (frCells (qs ++ [((⟨fW, fH, fp, fd⟩ : Pf), Value.slice ua q uc)]))) := by
              unfold Hid
              rw [frCells_app, List.length_append]
              exact hown'
            have HP3 : Hid (∀ x ∈ qs ++ [((⟨fW, fH, fp, fd⟩ : Pf), Value.slice ua q uc)], RdP w x.2 x.1.ps) := by
              intro x hx
              rcases List.mem_append.1 hx with hx | hx
              · exact HP.out x hx
              · simp at hx; subst hx; exact HU.out
            clear hown' hgrow g0 HOA hbA
            go_wp2
            go_roundw
            case rel => exact ⟨k + 1, _, by omega, by go_num, HO3, HP3, HQ2.out _, hb3⟩
            case measure => simp [intOf]; omega
        | succ m =>
          obtain ⟨og, oc', ho1, ho2, _, _⟩ := own_shape HO.out (by rw [HLQ.out]; omega)
          simp only [Value.slice.injEq] at ho1
          obtain ⟨rfl, -, rfl⟩ := ho1
          have hmq : m < qs.length := by rw [HLQ.out]; omega
          obtain ⟨lq, HL⟩ : ∃ lq, Hid (qs.getD m q0 = lq) := ⟨_, (rfl : _ = _)⟩
          have hlmem : lq ∈ qs := by
            rw [← HL.out, List.getD_eq_getElem?_getD, List.getElem?_eq_getElem hmq]
            simp
          have hlp : lq.1.ps.length ≤ 80 := by
            have h1 := (trim_small fs (fun ps => ps.length ≤ 80) HG.out.pix k (by rw [HN.out]; exact hk)).2
            rw [← HQ.out] at h1
            exact h1 lq.1 (List.mem_map_of_mem hlmem)
          have HLF : Hid (lastF (qs.map Prod.fst) = lq.1) := by
            unfold Hid lastF
            rw [List.length_map, HLQ.out, ← HL.out]
            simp [List.getD_eq_getElem?_getD, List.getElem?_eq_getElem hmq]
          have HC := frCells_at qs m hmq
          rw [HL.out] at HC
          have HCA := fun x (hx : x < 4) => (HLQ.out ▸ HO.out).cellAt (m * 4 + x) (by omega)
          have HRW : RdP wr lq.2 lq.1.ps := (HP.out lq hlmem).on hbr
          obtain ⟨⟨lW, lH, lp, ld⟩, lu⟩ := lq
          simp only at HC HRW hlp
          have HRW2 := HRW
          obtain ⟨la, lc, hlu, _⟩ := HRW2
          obtain ⟨ll, HLL⟩ : ∃ ll, Hid (lp.length = ll) := ⟨_, (rfl : _ = _)⟩
          rw [HLL.out] at hlu
          subst hlu
          have d0 := (HCA 0 (by omega)).trans HC.1
          have d1 := (HCA 1 (by omega)).trans HC.2.1
          have d2 := (HCA 2 (by omega)).trans HC.2.2.1
          have d3 := (HCA 3 (by omega)).trans HC.2.2.2
          rw [Nat.add_zero] at d0
          have hogx : og < wr.heap.size := (HO.out.lt og rfl).2
          have hgx : g < wr.heap.size := Nat.lt_of_lt_of_le hg hbr.size
          obtain ⟨b, HB⟩ : ∃ b, Hid (sameC lW lH lp fW fH fp = b) := ⟨_, (rfl : _ = _)⟩
          have hlp2 : lp.length ≤ 1000 := by omega
          have hfp3 : fp.length ≤ 1000 := by omega
          have HRD : Hid (RdP wr.drew (.slice la ll lc) lp) := HRW
          have HUD : Hid (RdP wr.drew (.slice ua q uc) fp) := HU.out.on hbr.drew
          have KEEP0 : Hid (∀ w', Below wr.drew.heap.size wr.drew w' → (w'.cell? ⟨og, m * 4, none⟩ = some (.int .i64 lW) ∧ w'.cell? ⟨og, m * 4 + 1, none⟩ = some (.int .i64 lH) ∧ w'.cell? ⟨og, m * 4 + 2, none⟩ = some (.slice la ll lc) ∧ w'.cell? ⟨g, p + k * 4, none⟩ = some (.int .i64 fW) ∧ w'.cell? ⟨g, p + k * 4 + 1, none⟩ = some (.int .i64 fH) ∧ w'.cell? ⟨g, p + k * 4 + 2, none⟩ = some (.slice ua q uc))) := by
            intro w' h
            refine ⟨?_, ?_, ?_, ?_, ?_, ?_⟩
            · rw [h.cell (p := ⟨og, m * 4, none⟩) hogx]; exact d0
            · rw [h.cell (p := ⟨og, m * 4 + 1, none⟩) hogx]; exact d1
            · rw [h.cell (p := ⟨og, m * 4 + 2, none⟩) hogx]; exact d2
            · rw [h.cell (p := ⟨g, p + k * 4, none⟩) hgx]; exact c0
            · rw [h.cell (p := ⟨g, p + k * 4 + 1, none⟩) hgx]; exact c1
            · rw [h.cell (p := ⟨g, p + k * 4 + 2, none⟩) hgx]; exact c2
          have hmi0 : (0 : Int) ≤ (m : Int) := by omega
          have hmi1 : (m : Int) < (m : Int) + 1 := by omega
          have hmi2 : (m : Int) < ((m + 1 : Nat) : Int) := by omega
          have hki0 : (0 : Int) ≤ (k : Int) := by omega
          have hki1 : (k : Int) < (n : Int) := by omega
          clear HCA HC hlmem HRW
          go_wp2_with fail
          go_region_held3 (fun w' => w'.cell? ⟨og, m * 4, none⟩ = some (.int .i64 lW) ∧ w'.cell? ⟨og, m * 4 + 1, none⟩ = some (.int .i64 lH) ∧ w'.cell? ⟨og, m * 4 + 2, none⟩ = some (.slice la ll lc) ∧ w'.cell? ⟨g, p + k * 4, none⟩ = some (.int .i64 fW) ∧ w'.cell? ⟨g, p + k * 4 + 1, none⟩ = some (.int .i64 fH) ∧ w'.cell? ⟨g, p + k * 4 + 2, none⟩ = some (.slice ua q uc))
            (first | exact KEEP0.out _ hbx | exact KEEP0.out _ (Below.refl _ _) | fail)
            (first | (go_at_call 8; refine (samePicG_any lW lH fW fH _ _ lp fp _ hlp2 hfp3 HRD HUD b HB).mono ?_; rintro e wx ⟨rfl, hbx⟩) | fail)
          have y0 : wx.cell? ⟨g, p + k * 4, none⟩ = some (.int .i64 fW) := by rw [hbx.cell (p := ⟨g, p + k * 4, none⟩) hgx]; exact c0
          have y1 : wx.cell? ⟨g, p + k * 4 + 1, none⟩ = some (.int .i64 fH) := by rw [hbx.cell (p := ⟨g, p + k * 4 + 1, none⟩) hgx]; exact c1
          have y2 : wx.cell? ⟨g, p + k * 4 + 2, none⟩ = some (.slice ua q uc) := by rw [hbx.cell (p := ⟨g, p + k * 4 + 2, none⟩) hgx]; exact c2
          have y3 : wx.cell? ⟨g, p + k * 4 + 3, none⟩ = some (.int .i64 fd) := by rw [hbx.cell (p := ⟨g, p + k * 4 + 3, none⟩) hgx]; exact c3
          have x3 : wx.cell? ⟨og, m * 4 + 3, none⟩ = some (.int .i64 ld) := by rw [hbx.cell (p := ⟨og, m * 4 + 3, none⟩) hogx]; exact d3
          have HOY : Hid (wx.ownsRow w.heap.size 28 4 (.slice (some ⟨og, 0, none⟩) (m + 1) oc) qs.length (frCells qs)) := own_on2 (show World.ownsRow wr.drew _ _ _ _ _ _ from HO.out) hbx
          have hbY : Below w.heap.size w wx := hbr.drew.trans (hbx.mono hbr.size)
          clear HO HUD HRD KEEP0 d0 d1 d2 d3 c0 c1 c2 c3 hogx hbx hgx
          cases b with
          | true =>
            have hlike : lW = fW ∧ lH = fH ∧ lp = fp := by
              apply Classical.byContradiction
              intro h
              have := same_no HB h
              cases this
            have HQ2 : Hid ((qs.set m (⟨lW, lH, lp, ld + fd⟩, .slice la ll lc)).map Prod.fst = trimC (fs.take (k + 1))) := by
              unfold Hid
              rw [HT.out]
              unfold trimStep
              rw [if_neg hd, if_pos ⟨by intro e; rw [List.map_eq_nil_iff] at e; rw [e] at hmq; simp at hmq, by rw [HLF.out]; exact hlike⟩, HLF.out, List.length_map, HLQ.out, List.map_set]
              rfl
            have hlm : ((⟨lW, lH, lp, ld⟩ : Pf), Value.slice la ll lc) ∈ qs := by
              rw [← HL.out, List.getD_eq_getElem?_getD, List.getElem?_eq_getElem hmq]
              simp
            have hld : 0 ≤ ld ∧ ld ≤ 1000000 ∧ fd ≤ 1000000 := by
              have hI := trim_inv fs HG.out.low k (by rw [HN.out]; exact hk)
              have h1 : (⟨lW, lH, lp, ld⟩ : Pf) ∈ trimC (fs.take k) := by
                rw [← HQ.out]
                exact List.mem_map_of_mem (f := Prod.fst) hlm
              have h2 := hI.1.low _ h1
              have h3 := mem_le_len (trimC (fs.take k)) (fun g hg => by have := hI.1.low g hg; omega) _ h1
              have h4 : lenF (trimC (fs.take k)) = lenF (fs.take k) := trim_len _ (fun f hf => HG.out.low f (List.mem_of_mem_take hf))
              have h5 := lenF_take HG.out k
              have h6 := mem_le_len fs HG.out.low _ (getD_mem (fs := fs) (k := k) (by rw [HN.out]; exact hlt))
              rw [HF.out] at h6
              have h7 := HG.out.up
              simp only at h2 h3 h6
              omega
            obtain ⟨hld0, hld1, hfd1⟩ := hld
            have HOS := row_set HOY.out (j := m) hmq fd
            rw [HL.out] at HOS
            simp only [Pf.more] at HOS
            have HOS2 := hide_own HOS
            have HP3 : Hid (∀ x ∈ qs.set m (⟨lW, lH, lp, ld + fd⟩, .slice la ll lc), RdP w x.2 x.1.ps) := by
              intro x hx
              rcases List.mem_or_eq_of_mem_set hx with hx | hx
              · exact HP.out x hx
              · subst hx; exact (HP.out _ hlm :)
            have hfz := (HLQ.out ▸ HOY.out : World.ownsRow _ _ _ _ _ (m + 1) _).frozenAt (m * 4 + 3)
            have hogw : w.heap.size ≤ og := (HOY.out.lt og rfl).1
            have hb9 : Below w.heap.size w (wx.setCell ⟨og, m * 4 + 3, none⟩ (.int .i64 (ld + fd))) := hbY.setCell hogw _
            clear hlike HT HOS HOY hlm
            go_wp2_with fail
            clear HQ HG HF HR HM HL HB HLF HLL HN HLQ hi hz0 hz1 hz2
            go_still_tail 15, (by kernel_rfl)
            go_wp2_with fail
            go_roundw
            case rel => exact ⟨k + 1, _, by omega, by go_num, HOS2, HP3, HQ2, hb9.drew⟩
            case measure => simp [intOf]; omega
          | false =>
            have HQ2 : Hid (∀ u, (qs ++ [((⟨fW, fH, fp, fd⟩ : Pf), u)]).map Prod.fst = trimC (fs.take (k + 1))) := by
              intro u
              rw [HT.out]
              unfold trimStep
              rw [if_neg hd, if_neg]
              · simp
              · rintro ⟨_, h⟩
                rw [HLF.out] at h
                have := same_yes HB h.1 h.2.1 h.2.2
                cases this
            clear HT
            have g0 : ∀ j u, [Value.int .i64 fW, .int .i64 fH, .slice ua q uc, .int .i64 fd][j]? = some u → (wx.alloc (.cells #[.int .i64 fW, .int .i64 fH, .slice ua q uc, .int .i64 fd] 28)).cell? ((⟨wx.heap.size, 0, none⟩ : Addr).add j) = some u := by
              intro j u hj
              match j, hj with
              | 0, hj => simp at hj; subst hj; simp [Addr.add]
              | 1, hj => simp at hj; subst hj; simp [Addr.add]
              | 2, hj => simp at hj; subst hj; simp [Addr.add]
              | 3, hj => simp at hj; subst hj; simp [Addr.add]
              | j + 4, hj => simp at hj
            have hbA : Below w.heap.size w (wx.alloc (.cells #[.int .i64 fW, .int .i64 fH, .slice ua q uc, .int .i64 fd] 28)) := hbY.alloc hbY.size _
            have HOA : Hid ((wx.alloc (.cells #[.int .i64 fW, .int .i64 fH, .slice ua q uc, .int .i64 fd] 28)).ownsRow w.heap.size 28 4 (.slice (some ⟨og, 0, none⟩) (m + 1) oc) qs.length (frCells qs)) := HOY.out.alloc _
            go_wp2_with (at_builtin; refine wpList_append_own _ rfl _ _ 22 rfl w.heap.size 28 i0 (.agg #[.int .i64 0, .int .i64 0, .slice none 0 0, .int .i64 0]) 4 48 Try.underlying22 hi hz0 hz1 hz2 rfl (by decide) _ _ _ rfl HOA.out ⟨wx.heap.size, 0, none⟩ 1 1 [.int .i64 fW, .int .i64 fH, .slice ua q uc, .int .i64 fd] rfl rfl ?c1 ?c2 ?c3 ?c4 ?c5 ?_)
            case c1 => exact g0
            case c2 => intro u hu; simp at hu; rcases hu with rfl | rfl | rfl | rfl <;> rfl
            case c3 => unfold maxLen; rw [HLQ.out]; omega
            case c4 => rw [HLQ.out]; omega
            case c5 => exact hbA.size
            · intro v' w3 hown' hgrow _
              have hb3 : Below w.heap.size w w3 := hbA.grown hgrow hbA.size (fun x hx => (HOA.out.lt x hx).1)
              have HO3 : Hid (w3.ownsRow w.heap.size 28 4 v' (qs ++ [((⟨fW, fH, fp, fd⟩ : Pf), Value.slice ua q uc)]).length (frCells (qs ++ [((⟨fW, fH, fp, fd⟩ : Pf), Value.slice ua q uc)]))) := by
                unfold Hid
                rw [frCells_app, List.length_append]
                exact hown'
              have HP3 : Hid (∀ x ∈ qs ++ [((⟨fW, fH, fp, fd⟩ : Pf), Value.slice ua q uc)], RdP w x.2 x.1.ps) := by
                intro x hx
                rcases List.mem_append.1 hx with hx | hx
                · exact HP.out x hx
                · simp at hx; subst hx; exact HU.out
              clear hown' hgrow g0 HOA hbA
              go_wp2
              go_roundw
              case rel => exact ⟨k + 1, _, by omega, by go_num, HO3, HP3, HQ2.out _, hb3⟩
              case measure => simp [intOf]; omega
    · go_wp2_with fail
      go_ret
      refine ⟨_, rfl, ?_, hbr⟩
      have h1 := row_rd HO.out (fun x hx => (HP.out x hx).on hbr)
      rw [HQ.out, List.take_of_length_le (by rw [HN.out]; omega)] at h1
      exact h1
end Go.Proofs.Ytnjnelfmfijgjad
