/- Walk of the reference's Laid. -/
import Derived.Test.YtjmkfcgnadpbaaaDoorM9
namespace Go.Proofs.YtjmkfcgnadpbaaaDoor
open Go.RowKit

/-- what holds on the road of Laid -/
structure Gld (w : World) (pw ph : Int) (vp : Value) (id x y qw qh : Int) (vq : Value) (a b c d : Int) (sh : Bool) (ps qs : List (Int × Int)) (B g np co bo : Nat) (cur : List (Int × Int)) (w' : World) : Prop where
  gl : Gla w pw ph vp id x y qw qh vq a b c d sh ps qs w'
  tr : Three w' (w.heap.size + 1 + 1) (.int .i64 0) (.int .i64 0) (.slice none 0 0)
  to : Three w' bo (.int .i64 pw) (.int .i64 ph) (.slice (some ⟨g, 0, none⟩) np co)
  own : w'.ownsRow B 42 2 (.slice (some ⟨g, 0, none⟩) np co) np (pixCells cur)
section
variable {w : World} {pw ph : Int} {vp : Value} {id x y qw qh : Int} {vq : Value} {a b c d : Int} {sh : Bool} {ps qs : List (Int × Int)} {B g np co bo : Nat} {cur : List (Int × Int)} {w1 w2 : World}
theorem Gld.on (h : Gld w pw ph vp id x y qw qh vq a b c d sh ps qs B g np co bo cur w1) (hb : Below w1.heap.size w1 w2) : Gld w pw ph vp id x y qw qh vq a b c d sh ps qs B g np co bo cur w2 :=
  ⟨h.gl.on hb, h.tr.on hb, h.to.on hb, own_on2 h.own hb⟩
theorem Gld.drew (h : Gld w pw ph vp id x y qw qh vq a b c d sh ps qs B g np co bo cur w1) : Gld w pw ph vp id x y qw qh vq a b c d sh ps qs B g np co bo cur w1.drew := ⟨h.gl.drew, h.tr.drew, h.to.drew, h.own⟩
theorem Gld.slot (h : Gld w pw ph vp id x y qw qh vq a b c d sh ps qs B g np co bo cur w1) (hl : cur.length = np) {K : Nat} (hK : K < np) :
    ∃ u0 u1, w1.cell? ⟨g, K * 2, none⟩ = some u0 ∧ w1.cell? ⟨g, K * 2 + 1, none⟩ = some u1 ∧ w1.frozen? ⟨g, K * 2, none⟩ = false ∧ w1.frozen? ⟨g, K * 2 + 1, none⟩ = false := by
  have hk : K < cur.length := by rw [hl]; exact hK
  exact ⟨_, _, (h.own.cellAt (K * 2) (by omega)).trans (pixCells_at _ K hk).1, (h.own.cellAt (K * 2 + 1) (by omega)).trans (pixCells_at _ K hk).2, h.own.frozenAt _, h.own.frozenAt _⟩
theorem Gld.store (h : Gld w pw ph vp id x y qw qh vq a b c d sh ps qs B g np co bo cur w1) (hp : RdP w vp ps) (hq : RdP w vq qs) (hg : w.heap.size + 3 ≤ g) (hgb : g ≠ bo) (K : Nat) (v u : Int) :
    Gld w pw ph vp id x y qw qh vq a b c d sh ps qs B g np co bo (cur.set K (v, u)) ((w1.setCell ⟨g, K * 2, none⟩ (.int .i64 v)).setCell ⟨g, K * 2 + 1, none⟩ (.int .i64 u)) := by
  have hb : Below w.heap.size w ((w1.setCell ⟨g, K * 2, none⟩ (.int .i64 v)).setCell ⟨g, K * 2 + 1, none⟩ (.int .i64 u)) := (h.gl.bel.setCell (show w.heap.size ≤ g by omega) _).setCell (show w.heap.size ≤ g by omega) _
  refine ⟨⟨(h.gl.tp.other (by omega)).other (by omega), (h.gl.eo.other (by omega)).other (by omega), hp.on hb, hq.on hb, hb⟩, (h.tr.other (by omega)).other (by omega), (h.to.other (by omega)).other (by omega), ?_⟩
  have h1 := (h.own.stored (K * 2) (.int .i64 v)).1
  have h2 := (h1.stored (K * 2 + 1) (.int .i64 u)).1
  rw [pixCells_set] at h2
  exact h2
end

set_option maxHeartbeats 40000000 in
set_option maxRecDepth 100000 in
theorem laid_own (PW PH QW QH : Nat) (vp vq : Value) (ps qs : List (Int × Int)) (id x y a b c d : Int) (sh : Bool) (w : World) (HP : Hid (checkL PW PH ps = 0)) (HQ : Hid (checkL QW QH qs = 0)) (RP : Hid (RdP w vp ps)) (RQ : Hid (RdP w vq qs))
    (hx : -20 ≤ x) (hx2 : x ≤ 20) (hy : -20 ≤ y) (hy2 : y ≤ 20) (ha : -20 ≤ a) (ha2 : a ≤ 20) (hb : -20 ≤ b) (hb2 : b ≤ 20) (hc : 0 ≤ c) (hc2 : c ≤ 20) (hd : 0 ≤ d) (hd2 : d ≤ 20) :
    Calls Tryd.prog 36 #[picV PW PH vp, objV id x y QW QH vq a b c d sh] w
      fun e w' => ∃ v', e = .returned (picV PW PH v') ∧ w'.ownsRow w.heap.size 42 2 v' (layL PW ps QW QH qs x y a b c d sh).length (pixCells (layL PW ps QW QH qs x y a b c d sh)) ∧ Below w.heap.size w w' := by
  obtain ⟨PW', PH', e1, e2, p1, p2, p3, p4, pl, pok⟩ := check_zero _ _ _ HP.out
  obtain ⟨QW', QH', e3, e4, q1, q2, q3, q4, ql, qok⟩ := check_zero _ _ _ HQ.out
  obtain rfl : PW' = PW := by omega
  obtain rfl : PH' = PH := by omega
  obtain rfl : QW' = QW := by omega
  obtain rfl : QH' = QH := by omega
  clear e1 e2 e3 e4
  have POK : Hid (∀ k, k < ps.length → pixOk (ps.getD k (0, 0))) := pok
  have QOK : Hid (∀ k, k < qs.length → pixOk (qs.getD k (0, 0))) := qok
  clear pok qok
  have hm1 : PW' * PH' ≤ 8 * 8 := Nat.mul_le_mul p2 p4
  have hm2 : 1 * 1 ≤ PW' * PH' := Nat.mul_le_mul p1 p3
  have hm3 : QW' * QH' ≤ 8 * 8 := Nat.mul_le_mul q2 q4
  have hqne : qs ≠ [] := by
    intro e; rw [e] at ql
    have : 1 * 1 ≤ QW' * QH' := Nat.mul_le_mul q1 q3
    simp at ql; omega
  have hne : ps ≠ [] := by intro e; rw [e] at pl; simp at pl; omega
  obtain ⟨ap, cp, hvp, hlp, hcp, _⟩ := RP.out
  obtain ⟨aq, cq, hvq, hlq, hcq, _⟩ := RQ.out
  obtain ⟨np, HNP⟩ : ∃ n, Hid (ps.length = n) := ⟨_, (rfl : _ = _)⟩
  obtain ⟨nq, HNQ⟩ : ∃ n, Hid (qs.length = n) := ⟨_, (rfl : _ = _)⟩
  rw [HNP.out] at hvp hlp pl
  rw [HNQ.out] at hvq hlq ql
  subst hvp hvq
  have hnp : np ≤ 64 := by omega
  have hnp1 : 1 ≤ np := by omega
  have hnq : nq ≤ 64 := by omega
  have HPL : Hid (np = PW' * PH') := pl
  have HQL : Hid (nq = QW' * QH') := ql
  clear pl ql hm1 hm2 hm3
  unfold picV objV
  obtain ⟨W0, HW0⟩ : ∃ W, Hid (((w.alloc (.cells #[.int .i64 (PW' : Int), .int .i64 (PH' : Int), .slice ap np cp] 49)).alloc (.cells #[.int .i64 id, .int .i64 x, .int .i64 y, .int .i64 (QW' : Int), .int .i64 (QH' : Int), .slice aq nq cq, .int .i64 a, .int .i64 b, .int .i64 c, .int .i64 d, .bool sh] 80)).alloc (.cells #[.int .i64 0, .int .i64 0, .slice none 0 0] 49) = W) := ⟨_, (rfl : _ = _)⟩
  have hb0 : Below w.heap.size w W0 := by rw [← HW0.out]; exact (((Below.refl _ _).alloc (Nat.le_refl _) _).alloc (by simp) _).alloc (by simp; omega) _
  have HSZ : Hid (W0.heap.size = w.heap.size + 3) := by unfold Hid; rw [← HW0.out]; simp
  have HG0 : Hid (Gla w (PW' : Int) (PH' : Int) (.slice ap np cp) id x y (QW' : Int) (QH' : Int) (.slice aq nq cq) a b c d sh ps qs W0) := by
    refine ⟨?_, ?_, RP.out.on hb0, RQ.out.on hb0, hb0⟩
    · rw [← HW0.out]; exact ((three_start w (.int .i64 (PW' : Int)) (.int .i64 (PH' : Int)) (.slice ap np cp) 49).alloc _).alloc _
    · rw [← HW0.out]; exact (eleven_start _ (.int .i64 id) (.int .i64 x) (.int .i64 y) (.int .i64 (QW' : Int)) (.int .i64 (QH' : Int)) (.slice aq nq cq) (.int .i64 a) (.int .i64 b) (.int .i64 c) (.int .i64 d) (.bool sh) 80 (w.heap.size + 1) (by simp)).alloc _
  have HTR : Hid (Three W0 (w.heap.size + 1 + 1) (.int .i64 0) (.int .i64 0) (.slice none 0 0)) := by unfold Hid; rw [← HW0.out]; exact three_begin _ (.int .i64 0) (.int .i64 0) (.slice none 0 0) 49 (w.heap.size + 1 + 1) (by simp)
  clear hb0
  go_enter Tryd.func36, Tryd.ntmps36
  go_wp2_with fail
  rw [HW0.out]
  obtain ⟨gp, op, rfl, hgp, PC⟩ := rd_some HG0.out.rp hne
  obtain ⟨gq_, oq, rfl, hgq, QC⟩ := rd_some HG0.out.rq hqne
  have HPCE := hid_of PC
  have HQCE := hid_of QC
  clear PC QC
  have HB0D : Hid (Below W0.heap.size W0 W0.drew) := (Below.refl _ _).drew
  have KEEP : Hid (∀ W2, Below W0.heap.size W0 W2 → (W2.cell? ⟨w.heap.size, 0, none⟩ = some (.int .i64 (PW' : Int)) ∧ W2.cell? ⟨w.heap.size, 1, none⟩ = some (.int .i64 (PH' : Int)) ∧ W2.cell? ⟨w.heap.size, 2, none⟩ = some (.slice (some ⟨gp, op, none⟩) np cp))) := fun W2 h2 => by
    obtain ⟨⟨c0, c1, c2, _, _, _, _⟩, _, _, _, _⟩ := HG0.out.on h2
    exact ⟨c0, c1, c2⟩
  have HRD : Hid (RdP W0.drew (.slice (some ⟨gp, op, none⟩) np cp) ps) := HG0.out.rp
  go_cut [5] from 10 (fun s5 wc => ∃ bo g co, s5 = .pointer (some ⟨bo, 0, none⟩) ∧ Three wc bo (.int .i64 (PW' : Int)) (.int .i64 (PH' : Int)) (.slice (some ⟨g, 0, none⟩) np co) ∧ wc.ownsRow W0.heap.size 42 2 (.slice (some ⟨g, 0, none⟩) np co) np (pixCells ps) ∧ Below W0.heap.size W0 wc ∧ g ≠ bo ∧ W0.heap.size ≤ g ∧ W0.heap.size ≤ bo)
  case first =>
    refine wp_region_held_drew (S := (fun w' => w'.cell? ⟨w.heap.size, 0, none⟩ = some (.int .i64 (PW' : Int)) ∧ w'.cell? ⟨w.heap.size, 1, none⟩ = some (.int .i64 (PH' : Int)) ∧ w'.cell? ⟨w.heap.size, 2, none⟩ = some (.slice (some ⟨gp, op, none⟩) np cp))) (by kernel_rfl) ?_ (fun hHeld => ?_)
    · exact KEEP.out _ HB0D.out
    refine tk (v := ?_) 0 rfl (by kernel_rfl) (by rfl) ?_ ?_
    rotate_left
    · (intro w hSw; (try dsimp only at hSw); go_simp; try with_reducible rfl)
    refine tk (v := ?_) 1 rfl (by kernel_rfl) (by rfl) ?_ ?_
    rotate_left
    · (intro w hSw; (try dsimp only at hSw); go_simp; try with_reducible rfl)
    refine tk (v := ?_) 2 rfl (by kernel_rfl) (by rfl) ?_ ?_
    rotate_left
    · (intro w hSw; (try dsimp only at hSw); go_simp; try with_reducible rfl)
    refine tk (v := ?_) 3 rfl (by kernel_rfl) (by rfl) ?_ ?_
    rotate_left
    · (intro w hSw; (try dsimp only at hSw); go_simp; try with_reducible rfl)
    refine tk (v := ?_) 4 rfl (by kernel_rfl) (by rfl) ?_ ?_
    rotate_left
    · (intro w hSw; (try dsimp only at hSw); go_simp; try with_reducible rfl)
    refine tk (v := ?_) 5 rfl (by kernel_rfl) (by rfl) ?_ ?_
    rotate_left
    · (intro w hSw; (try dsimp only at hSw); go_simp; try with_reducible rfl)
    refine wpAnyH_ready (rs := [6, 8]) (by kernel_rfl) (by simp) ?_
    refine AllReadyH.cons rfl (fun K_ hK => ?_) (AllReadyH.cons rfl (fun K_ hK => ?_) AllReadyH.nil)
    · obtain ⟨g, co, w1, hr, ho1, hb1, hg1⟩ := app_pix W0.drew ps np gp op cp HNP hnp hne HRD
      refine ready_append rfl _ _ _ rfl _ _ _ rfl rfl hr ?_
      have HB1 : Hid (Below W0.heap.size W0 w1) := HB0D.out.trans (hb1.mono HB0D.out.size)
      have HO1 := hide_own ho1
      refine hK.out _ _ ?_ (fun hHeld => ?_)
      · exact KEEP.out _ HB1.out
      clear hK K_
      refine tk (v := ?_) 7 rfl (by kernel_rfl) (by rfl) ?_ ?_
      rotate_left
      · (intro w hSw; (try dsimp only at hSw); go_simp; try with_reducible rfl)
      refine wpAnyH_ready (rs := [8]) (by kernel_rfl) (by simp) ?_
      refine AllReadyH.cons rfl (fun K_ hK => ?_) AllReadyH.nil
      go_simp
      have HBA : Hid (Below W0.heap.size W0 (w1.alloc (.cells #[.int .i64 0, .int .i64 0, .slice none 0 0] 49))) := HB1.out.alloc HB1.out.size _
      have TA := three_start w1 (.int .i64 0) (.int .i64 0) (.slice none 0 0) 49
      have hgl : g < w1.heap.size := (HO1.out.lt g rfl).2
      refine hK.out _ _ ?_ (fun hHeld => ?_)
      · exact KEEP.out _ HBA.out
      clear hK K_
      obtain ⟨t0, t1, t2, f0, f1, f2, _⟩ := TA
      have hle := HB1.out.size
      have HBS : Hid (Below W0.heap.size W0 (w1.alloc (.cells #[.int .i64 (PW' : Int), .int .i64 (PH' : Int), .slice (some ⟨g, 0, none⟩) np co] 49))) := HB1.out.alloc hle _
      have HOS := hide_own (own_on2 HO1.out ((Below.refl _ w1).alloc (Nat.le_refl _) (.cells #[.int .i64 (PW' : Int), .int .i64 (PH' : Int), .slice (some ⟨g, 0, none⟩) np co] 49)))
      refine wpAnyH_ready (rs := [9]) (by kernel_rfl) (by simp) ?_
      refine AllReadyH.cons rfl (fun K_ hK => ?_) AllReadyH.nil
      go_simp
      refine hK.out _ _ ?_ (fun hHeld => ?_)
      · exact KEEP.out _ HBS.out
      clear hK K_
      refine wpAnyH_done (by kernel_rfl) ?_ _
      go_wp2_with fail
      go_meet
      exact ⟨_, g, co, rfl, three_start w1 _ _ _ _, HOS.out, HBS.out, by omega, hg1, hle⟩
    · go_simp
      have HZ : Hid (Below W0.heap.size W0 (W0.drew.alloc (.cells #[.int .i64 0, .int .i64 0, .slice none 0 0] 49))) := HB0D.out.alloc HB0D.out.size _
      have TA := three_start W0.drew (.int .i64 0) (.int .i64 0) (.slice none 0 0) 49
      refine hK.out _ _ ?_ (fun hHeld => ?_)
      · exact KEEP.out _ HZ.out
      clear hK K_
      have HRZ : Hid (RdP (W0.drew.alloc (.cells #[.int .i64 0, .int .i64 0, .slice none 0 0] 49)) (.slice (some ⟨gp, op, none⟩) np cp) ps) := HRD.out.on ((Below.refl _ _).alloc (Nat.le_refl _) _)
      refine wpAnyH_ready (rs := [6]) (by kernel_rfl) (by simp) ?_
      refine AllReadyH.cons rfl (fun K_ hK => ?_) AllReadyH.nil
      obtain ⟨g, co, w1, hr, ho1, hb1, hg1⟩ := app_pix (W0.drew.alloc (.cells #[.int .i64 0, .int .i64 0, .slice none 0 0] 49)) ps np gp op cp HNP hnp hne HRZ
      refine ready_append rfl _ _ _ rfl _ _ _ rfl rfl hr ?_
      have HB1 : Hid (Below W0.heap.size W0 w1) := HZ.out.trans (hb1.mono HZ.out.size)
      have HO1 := hide_own ho1
      have TB := TA.on hb1
      refine hK.out _ _ ?_ (fun hHeld => ?_)
      · exact KEEP.out _ HB1.out
      clear hK K_
      refine tk (v := ?_) 7 rfl (by kernel_rfl) (by rfl) ?_ ?_
      rotate_left
      · (intro w hSw; (try dsimp only at hSw); go_simp; try with_reducible rfl)
      have ⟨t0, t1, t2, f0, f1, f2, _⟩ := TB
      have hdz : W0.drew.heap.size = W0.heap.size := rfl
      rw [hdz] at t0 t1 t2 f0 f1 f2 TB TA
      have hle : W0.heap.size ≤ W0.heap.size := Nat.le_refl _
      have hzs : (W0.drew.alloc (.cells #[.int .i64 0, .int .i64 0, .slice none 0 0] 49)).heap.size = W0.heap.size + 1 := by simp
      rw [hzs] at HO1 hg1
      have HBS : Hid (Below W0.heap.size W0 (((w1.setCell ⟨W0.heap.size, 0, none⟩ (.int .i64 (PW' : Int))).setCell ⟨W0.heap.size, 1, none⟩ (.int .i64 (PH' : Int))).setCell ⟨W0.heap.size, 2, none⟩ (.slice (some ⟨g, 0, none⟩) np co))) := ((HB1.out.setCell hle _).setCell hle _).setCell hle _
      have HOS : Hid ((((w1.setCell ⟨W0.heap.size, 0, none⟩ (.int .i64 (PW' : Int))).setCell ⟨W0.heap.size, 1, none⟩ (.int .i64 (PH' : Int))).setCell ⟨W0.heap.size, 2, none⟩ (.slice (some ⟨g, 0, none⟩) np co)).ownsRow (W0.heap.size + 1) 42 2 (.slice (some ⟨g, 0, none⟩) np co) np (pixCells ps)) := by
        unfold Hid
        refine ownsRow_setCell_below (ownsRow_setCell_below (ownsRow_setCell_below HO1.out ?_ _) ?_ _) ?_ _
        all_goals simp
      refine wpAnyH_ready (rs := [9]) (by kernel_rfl) (by simp) ?_
      refine AllReadyH.cons rfl (fun K_ hK => ?_) AllReadyH.nil
      go_simp
      refine hK.out _ _ ?_ (fun hHeld => ?_)
      · exact KEEP.out _ HBS.out
      clear hK K_
      refine wpAnyH_done (by kernel_rfl) ?_ _
      go_wp2_with fail
      go_meet
      exact ⟨_, g, co, rfl, TB.set_all _ _ _, own_mono HOS.out (by omega), HBS.out, by omega, by omega, hle⟩
  case rest =>
    obtain ⟨bo, g, co, rfl, TO, ho1, hb1, hgb, hg0, hbo0⟩ := hcut
    have HPLE := HPL.out
    have hlen : ps.length = PW' * PH' := by rw [HNP.out]; exact HPLE
    have HS0 : Hid (Gld w (PW' : Int) (PH' : Int) (.slice (some ⟨gp, op, none⟩) np cp) id x y (QW' : Int) (QH' : Int) (.slice (some ⟨gq_, oq, none⟩) nq cq) a b c d sh ps qs W0.heap.size g np co bo (gridL PW' (PW' * PH') (uptoC (layC QW' QH' x y a b c d sh) 0 0) (gq (fun p q => Fb.overL q.1 q.2 p.1 p.2) PW' ps QW' qs x y) ps) wc) := by
      refine ⟨HG0.out.on hb1, HTR.out.on hb1, TO, ?_⟩
      rw [refG_start _ _ _ _ _ hlen]; exact ho1
    clear HPLE TO ho1 hb1 KEEP HRD HB0D
    go_wp2_with fail
    go_loopw [6] (fun vv wr => ∃ V : Nat, V ≤ PH' ∧ vv = .int .i64 (V : Int) ∧ Hid (Gld w (PW' : Int) (PH' : Int) (.slice (some ⟨gp, op, none⟩) np cp) id x y (QW' : Int) (QH' : Int) (.slice (some ⟨gq_, oq, none⟩) nq cq) a b c d sh ps qs W0.heap.size g np co bo (gridL PW' (PW' * PH') (uptoC (layC QW' QH' x y a b c d sh) V 0) (gq (fun p q => Fb.overL q.1 q.2 p.1 p.2) PW' ps QW' qs x y) ps) wr)) (fun vv _ => PH' - (intOf vv).toNat)
    case atStart => exact ⟨0, by omega, rfl, HS0⟩
    case round =>
      obtain ⟨V, hV, rfl, HS⟩ := hrel
      by_cases hV2 : V < PH'
      · obtain ⟨⟨p0, p1, p2, _, _, _, _⟩, _, _, _, _⟩ := HS.out.gl
        go_wp2_with fail
        clear p0 p1 p2
        go_loopw [7] (fun uv wr => ∃ U : Nat, U ≤ PW' ∧ uv = .int .i64 (U : Int) ∧ Hid (Gld w (PW' : Int) (PH' : Int) (.slice (some ⟨gp, op, none⟩) np cp) id x y (QW' : Int) (QH' : Int) (.slice (some ⟨gq_, oq, none⟩) nq cq) a b c d sh ps qs W0.heap.size g np co bo (gridL PW' (PW' * PH') (uptoC (layC QW' QH' x y a b c d sh) V U) (gq (fun p q => Fb.overL q.1 q.2 p.1 p.2) PW' ps QW' qs x y) ps) wr)) (fun uv _ => PW' - (intOf uv).toNat)
        case atStart => exact ⟨0, by omega, rfl, HS⟩
        case round =>
          clear HS
          obtain ⟨U, hU, rfl, HS⟩ := hrel
          by_cases hU2 : U < PW'
          · obtain ⟨⟨p0, p1, p2, _, _, _, _⟩, ⟨k0, k1, k2, k3, k4, k5, k6, k7, k8, k9, k10, _, _, _, _, _, _, _, _, _, _, _, _⟩, _, _, _⟩ := HS.out.gl
            go_wp2_with fail
            clear p0 p1 p2 k0 k1 k2 k3 k4 k5 k6 k7 k8 k9 k10
            obtain ⟨h1, HH1⟩ : ∃ b', Hid (hasB a b c d (U : Int) (V : Int) = b') := ⟨_, (rfl : _ = _)⟩
            obtain ⟨h2, HH2⟩ : ∃ b', Hid (hasB x y (QW' : Int) (QH' : Int) (U : Int) (V : Int) = b') := ⟨_, (rfl : _ = _)⟩
            refine (refHas_any a b c d (U : Int) (V : Int) _ (by omega) (by omega) (by omega) (by omega) (by omega) (by omega) (by omega) (by omega) h1 HH1).mono ?_
            rintro e w7 ⟨rfl, hb7⟩
            have HS7 := hid_of (HS.out.on hb7)
            clear hb7
            obtain ⟨_, ⟨k0, k1, k2, k3, k4, k5, k6, k7, k8, k9, k10, _, _, _, _, _, _, _, _, _, _, _, _⟩, _, _, _⟩ := HS7.out.gl
            go_wp2_with fail
            clear k0 k1 k2 k3 k4 k5 k6 k7 k8 k9 k10
            refine (refHas_any x y (QW' : Int) (QH' : Int) (U : Int) (V : Int) _ (by omega) (by omega) (by omega) (by omega) (by omega) (by omega) (by omega) (by omega) h2 HH2).mono ?_
            rintro e w8 ⟨rfl, hb8⟩
            have HS8 := hid_of (HS7.out.on hb8)
            clear hb8 HS7 HS
            by_cases hC : layC QW' QH' x y a b c d sh U V = true
            · obtain ⟨rfl, rfl, rfl⟩ : sh = true ∧ h1 = true ∧ h2 = true := by
                have h := hC
                unfold layC at h; rw [HH1.out, HH2.out] at h; simpa using h
              obtain ⟨⟨p0, p1, p2, _, _, _, _⟩, ⟨k0, k1, k2, k3, k4, k5, k6, k7, k8, k9, k10, _, _, _, _, _, _, _, _, _, _, _, _⟩, _, _, _⟩ := HS8.out.gl
              go_wp2_with fail
              clear p0 p1 p2 k0 k1 k2 k3 k4 k5 k6 k7 k8 k9 k10
              obtain ⟨M, HM⟩ : ∃ M, Hid (V * PW' = M) := ⟨_, (rfl : _ = _)⟩
              obtain ⟨K, HK⟩ : ∃ K, Hid (M + U = K) := ⟨_, (rfl : _ = _)⟩
              have hM : (V : Int) * (PW' : Int) = (M : Int) := by rw [← HM.out]; exact (Int.natCast_mul _ _).symm
              have hVP : (V + 1) * PW' ≤ PH' * PW' := Nat.mul_le_mul_right _ (by omega)
              have hKn : K < np := by
                have h1 := HK.out; have h2 := HPL.out; have h3 := HM.out
                rw [Nat.mul_comm] at h2; rw [Nat.add_mul] at hVP; omega
              have hMK : (M : Int) + (U : Int) = (K : Int) := by have := HK.out; omega
              have HKE : Hid (V * PW' + U = K) := by unfold Hid; rw [HM.out, HK.out]
              have HE1 : Hid (K / PW' = V) := by unfold Hid; rw [← HK.out, ← HM.out, Nat.add_comm, Nat.add_mul_div_right _ _ (by omega), Nat.div_eq_of_lt (by omega), Nat.zero_add]
              have HE2 : Hid (K % PW' = U) := by unfold Hid; rw [← HK.out, ← HM.out, Nat.add_comm, Nat.add_mul_mod_self_right, Nat.mod_eq_of_lt (by omega)]
              clear hVP
              obtain ⟨z0, z1, z2, z3⟩ := (hasB_iff _ _ _ _ _ _).1 HH2.out
              obtain ⟨Ry, HRy⟩ : ∃ n : Nat, Hid ((V : Int) - y = (n : Int)) := ⟨((V : Int) - y).toNat, by unfold Hid; omega⟩
              obtain ⟨Cx, HCx⟩ : ∃ n : Nat, Hid ((U : Int) - x = (n : Int)) := ⟨((U : Int) - x).toNat, by unfold Hid; omega⟩
              obtain ⟨M2, HM2⟩ : ∃ M, Hid (Ry * QW' = M) := ⟨_, (rfl : _ = _)⟩
              have hRy := HRy.out
              have hM2 : (Ry : Int) * (QW' : Int) = (M2 : Int) := by rw [← HM2.out]; exact (Int.natCast_mul _ _).symm
              have hRQ : (Ry + 1) * QW' ≤ QH' * QW' := Nat.mul_le_mul_right _ (by omega)
              obtain ⟨J, HJ⟩ : ∃ J, Hid (M2 + Cx = J) := ⟨_, (rfl : _ = _)⟩
              have hJn : J < nq := by
                have h1 := HM2.out; have h2 := HQL.out; have h3 := HCx.out; have h5 := HJ.out
                rw [Nat.mul_comm] at h2; rw [Nat.add_mul] at hRQ; omega
              have hJ : (M2 : Int) + (U : Int) - x = (J : Int) := by have := HCx.out; have := HJ.out; omega
              clear hRQ
              obtain ⟨pp, HPP⟩ : ∃ p, Hid (ps.getD K (0, 0) = p) := ⟨_, (rfl : _ = _)⟩
              obtain ⟨qq, HQQ⟩ : ∃ p, Hid (qs.getD J (0, 0) = p) := ⟨_, (rfl : _ = _)⟩
              have okp := getD_ok ps POK.out K
              have okq := getD_ok qs QOK.out J
              rw [HPP.out] at okp
              rw [HQQ.out] at okq
              obtain ⟨pv, pa⟩ := pp
              obtain ⟨qv, qa⟩ := qq
              obtain ⟨rr, HRR⟩ : ∃ r, Hid (Fb.overL qv qa pv pa = r) := ⟨_, (rfl : _ = _)⟩
              obtain ⟨rv, ra⟩ := rr
              have HGQ : Hid (gq (fun p q => Fb.overL q.1 q.2 p.1 p.2) PW' ps QW' qs x y K = (rv, ra)) := by
                unfold Hid gq
                rw [HE1.out, HE2.out, hRy, hM2, hJ, Int.toNat_natCast, HPP.out, HQQ.out]
                exact HRR.out
              obtain ⟨o0, o1, o2, o3⟩ := okp
              obtain ⟨o4, o5, o6, o7⟩ := okq
              have KEEP : Hid (∀ W2 cur', Gld w (PW' : Int) (PH' : Int) (.slice (some ⟨gp, op, none⟩) np cp) id x y (QW' : Int) (QH' : Int) (.slice (some ⟨gq_, oq, none⟩) nq cq) a b c d true ps qs W0.heap.size g np co bo cur' W2 → (W2.cell? ⟨bo, 2, none⟩ = some (.slice (some ⟨g, 0, none⟩) np co) ∧ W2.cell? ⟨w.heap.size, 0, none⟩ = some (.int .i64 (PW' : Int)) ∧ W2.cell? ⟨w.heap.size, 2, none⟩ = some (.slice (some ⟨gp, op, none⟩) np cp) ∧ W2.cell? ⟨w.heap.size + 1, 1, none⟩ = some (.int .i64 x) ∧ W2.cell? ⟨w.heap.size + 1, 2, none⟩ = some (.int .i64 y) ∧ W2.cell? ⟨w.heap.size + 1, 3, none⟩ = some (.int .i64 (QW' : Int)) ∧ W2.cell? ⟨w.heap.size + 1, 5, none⟩ = some (.slice (some ⟨gq_, oq, none⟩) nq cq) ∧ W2.cell? ⟨gp, op + K * 2, none⟩ = some (.int .i64 pv) ∧ W2.cell? ⟨gp, op + K * 2 + 1, none⟩ = some (.int .i64 pa) ∧ W2.cell? ⟨gq_, oq + J * 2, none⟩ = some (.int .i64 qv) ∧ W2.cell? ⟨gq_, oq + J * 2 + 1, none⟩ = some (.int .i64 qa))) := fun W2 cur' h2 => by
                have hbb : Below W0.heap.size W0 W2 → True := fun _ => trivial
                obtain ⟨p0, p1, p2, _, _, _, _⟩ := h2.gl.tp
                obtain ⟨k0, k1, k2, k3, k4, k5, k6, k7, k8, k9, k10, _, _, _, _, _, _, _, _, _, _, _, _⟩ := h2.gl.eo
                obtain ⟨g0, o, hh0, _, hh⟩ := rd_some h2.gl.rp hne
                obtain ⟨g1, o', hh1, _, hh'⟩ := rd_some h2.gl.rq hqne
                have hh2 := Addr.mk.inj (Option.some.inj hh0)
                have hh3 := Addr.mk.inj (Option.some.inj hh1)
                obtain ⟨rfl, rfl, _⟩ := hh2
                obtain ⟨rfl, rfl, _⟩ := hh3
                obtain ⟨x0, x1⟩ := hh W2 (Below.refl _ _) K (by rw [HNP.out]; exact hKn)
                obtain ⟨y0, y1⟩ := hh' W2 (Below.refl _ _) J (by rw [HNQ.out]; exact hJn)
                rw [HPP.out] at x0 x1
                rw [HQQ.out] at y0 y1
                exact ⟨h2.to.c2, p0, p2, k1, k2, k3, k5, x0, x1, y0, y1⟩
              have hKi : (K : Int) < (np : Int) := by omega
              have hJi : (J : Int) < (nq : Int) := by omega
              have hw0 : IntKind.i64.wrap (M : Int) = (M : Int) := by rw [IntKind.wrap_i64]; omega
              have hw1 : IntKind.i64.wrap (K : Int) = (K : Int) := by rw [IntKind.wrap_i64]; omega
              have hw3 : IntKind.i64.wrap ((M2 : Int) + (U : Int)) = (M2 : Int) + (U : Int) := by rw [IntKind.wrap_i64]; omega
              have hw5 : IntKind.i64.wrap (Ry : Int) = (Ry : Int) := by rw [IntKind.wrap_i64]; omega
              have hw6 : IntKind.i64.wrap (M2 : Int) = (M2 : Int) := by rw [IntKind.wrap_i64]; omega
              have hw7 : IntKind.i64.wrap (J : Int) = (J : Int) := by rw [IntKind.wrap_i64]; omega
              have HGD := hid_of HS8.out.drew
              have HLC : Hid ((gridL PW' (PW' * PH') (uptoC (layC QW' QH' x y a b c d true) V U) (gq (fun p q => Fb.overL q.1 q.2 p.1 p.2) PW' ps QW' qs x y) ps).length = np) := by unfold Hid; rw [grid_len]; exact HPL.out.symm
              have hg3 : w.heap.size + 3 ≤ g := by have := HSZ.out; omega
              refine wp_region_held_drew (S := (fun w' => w'.cell? ⟨bo, 2, none⟩ = some (.slice (some ⟨g, 0, none⟩) np co) ∧ w'.cell? ⟨w.heap.size, 0, none⟩ = some (.int .i64 (PW' : Int)) ∧ w'.cell? ⟨w.heap.size, 2, none⟩ = some (.slice (some ⟨gp, op, none⟩) np cp) ∧ w'.cell? ⟨w.heap.size + 1, 1, none⟩ = some (.int .i64 x) ∧ w'.cell? ⟨w.heap.size + 1, 2, none⟩ = some (.int .i64 y) ∧ w'.cell? ⟨w.heap.size + 1, 3, none⟩ = some (.int .i64 (QW' : Int)) ∧ w'.cell? ⟨w.heap.size + 1, 5, none⟩ = some (.slice (some ⟨gq_, oq, none⟩) nq cq) ∧ w'.cell? ⟨gp, op + K * 2, none⟩ = some (.int .i64 pv) ∧ w'.cell? ⟨gp, op + K * 2 + 1, none⟩ = some (.int .i64 pa) ∧ w'.cell? ⟨gq_, oq + J * 2, none⟩ = some (.int .i64 qv) ∧ w'.cell? ⟨gq_, oq + J * 2 + 1, none⟩ = some (.int .i64 qa))) (by kernel_rfl) ?_ (fun hHeld => ?_)
              · exact KEEP.out _ _ HGD.out
              refine tk (v := ?_) 0 rfl (by kernel_rfl) (by rfl) ?_ ?_
              rotate_left
              · (intro w hSw; (try dsimp only at hSw); go_simp; try with_reducible rfl)
              try simp only [Act.put, List.setIfInBounds_toArray]
              refine tk (v := ?_) 1 rfl (by kernel_rfl) (by rfl) ?_ ?_
              rotate_left
              · (intro w hSw; (try dsimp only at hSw); go_simp; try with_reducible rfl)
              try simp only [Act.put]
              refine tk (v := ?_) 2 rfl (by kernel_rfl) (by rfl) ?_ ?_
              rotate_left
              · (intro w hSw; (try dsimp only at hSw); go_simp; try with_reducible rfl)
              try simp only [Act.put]
              refine tk (v := ?_) 3 rfl (by kernel_rfl) (by rfl) ?_ ?_
              rotate_left
              · (intro w hSw; (try dsimp only at hSw); go_simp; try with_reducible rfl)
              try simp only [Act.put]
              refine tk (v := ?_) 4 rfl (by kernel_rfl) (by rfl) ?_ ?_
              rotate_left
              · (intro w hSw; (try dsimp only at hSw); go_simp; try with_reducible rfl)
              try simp only [Act.put]
              refine tk (v := ?_) 5 rfl (by kernel_rfl) (by rfl) ?_ ?_
              rotate_left
              · (intro w hSw; (try dsimp only at hSw); go_simp; try with_reducible rfl)
              try simp only [Act.put]
              refine tk (v := ?_) 6 rfl (by kernel_rfl) (by rfl) ?_ ?_
              rotate_left
              · (intro w hSw; (try dsimp only at hSw); go_simp; try with_reducible rfl)
              try simp only [Act.put]
              refine tk (v := ?_) 7 rfl (by kernel_rfl) (by rfl) ?_ ?_
              rotate_left
              · (intro w hSw; (try dsimp only at hSw); go_simp; try with_reducible rfl)
              try simp only [Act.put]
              refine tk (v := ?_) 8 rfl (by kernel_rfl) (by rfl) ?_ ?_
              rotate_left
              · (intro w hSw; (try dsimp only at hSw); go_simp; try with_reducible rfl)
              try simp only [Act.put]
              refine tk (v := ?_) 9 rfl (by kernel_rfl) (by rfl) ?_ ?_
              rotate_left
              · (intro w hSw; (try dsimp only at hSw); go_simp; try with_reducible rfl)
              try simp only [Act.put]
              refine tk (v := ?_) 10 rfl (by kernel_rfl) (by rfl) ?_ ?_
              rotate_left
              · (intro w hSw; (try dsimp only at hSw); go_simp; try with_reducible rfl)
              try simp only [Act.put]
              refine tk (v := ?_) 11 rfl (by kernel_rfl) (by rfl) ?_ ?_
              rotate_left
              · (intro w hSw; (try dsimp only at hSw); go_simp; try with_reducible rfl)
              try simp only [Act.put]
              refine tk (v := ?_) 12 rfl (by kernel_rfl) (by rfl) ?_ ?_
              rotate_left
              · (intro w hSw; (try dsimp only at hSw); go_simp; try with_reducible rfl)
              try simp only [Act.put]
              refine tk (v := ?_) 13 rfl (by kernel_rfl) (by rfl) ?_ ?_
              rotate_left
              · (intro w hSw; (try dsimp only at hSw); go_simp; try with_reducible rfl)
              try simp only [Act.put]
              refine tk (v := ?_) 14 rfl (by kernel_rfl) (by rfl) ?_ ?_
              rotate_left
              · (intro w hSw; (try dsimp only at hSw); go_simp; try with_reducible rfl)
              try simp only [Act.put]
              refine tk (v := ?_) 15 rfl (by kernel_rfl) (by rfl) ?_ ?_
              rotate_left
              · (intro w hSw; (try dsimp only at hSw); go_simp; try with_reducible rfl)
              try simp only [Act.put]
              refine tk (v := ?_) 16 rfl (by kernel_rfl) (by rfl) ?_ ?_
              rotate_left
              · (intro w hSw; (try dsimp only at hSw); go_simp; try with_reducible rfl)
              try simp only [Act.put]
              refine tk (v := ?_) 17 rfl (by kernel_rfl) (by rfl) ?_ ?_
              rotate_left
              · (intro w hSw; (try dsimp only at hSw); go_simp; try with_reducible rfl)
              try simp only [Act.put]
              refine tk (v := ?_) 18 rfl (by kernel_rfl) (by rfl) ?_ ?_
              rotate_left
              · (intro w hSw; (try dsimp only at hSw); go_simp; try with_reducible rfl)
              try simp only [Act.put]
              refine tk (v := ?_) 19 rfl (by kernel_rfl) (by rfl) ?_ ?_
              rotate_left
              · (intro w hSw; (try dsimp only at hSw); go_simp; try with_reducible rfl)
              try simp only [Act.put]
              refine tk (v := ?_) 20 rfl (by kernel_rfl) (by rfl) ?_ ?_
              rotate_left
              · (intro w hSw; (try dsimp only at hSw); go_simp; try with_reducible rfl)
              try simp only [Act.put]
              refine tk (v := ?_) 21 rfl (by kernel_rfl) (by rfl) ?_ ?_
              rotate_left
              · (intro w hSw; (try dsimp only at hSw); go_simp; try with_reducible rfl)
              try simp only [Act.put]
              refine tk (v := ?_) 22 rfl (by kernel_rfl) (by rfl) ?_ ?_
              rotate_left
              · (intro w hSw; (try dsimp only at hSw); go_simp; try with_reducible rfl)
              try simp only [Act.put]
              refine tk (v := ?_) 23 rfl (by kernel_rfl) (by rfl) ?_ ?_
              rotate_left
              · (intro w hSw; (try dsimp only at hSw); go_simp; try with_reducible rfl)
              try simp only [Act.put]
              refine tk (v := ?_) 24 rfl (by kernel_rfl) (by rfl) ?_ ?_
              rotate_left
              · (intro w hSw; (try dsimp only at hSw); go_simp; try with_reducible rfl)
              try simp only [Act.put]
              refine tk (v := ?_) 25 rfl (by kernel_rfl) (by rfl) ?_ ?_
              rotate_left
              · (intro w hSw; (try dsimp only at hSw); go_simp; try with_reducible rfl)
              try simp only [Act.put]
              refine tk (v := ?_) 26 rfl (by kernel_rfl) (by rfl) ?_ ?_
              rotate_left
              · (intro w hSw; (try dsimp only at hSw); go_simp; try with_reducible rfl)
              try simp only [Act.put]
              refine tk (v := ?_) 27 rfl (by kernel_rfl) (by rfl) ?_ ?_
              rotate_left
              · (intro w hSw; (try dsimp only at hSw); go_simp; try with_reducible rfl)
              try simp only [Act.put]
              refine tk (v := ?_) 28 rfl (by kernel_rfl) (by rfl) ?_ ?_
              rotate_left
              · (intro w hSw; (try dsimp only at hSw); go_simp; try with_reducible rfl)
              try simp only [Act.put]
              refine tk (v := ?_) 29 rfl (by kernel_rfl) (by rfl) ?_ ?_
              rotate_left
              · (intro w hSw; (try dsimp only at hSw); go_simp; try with_reducible rfl)
              try simp only [Act.put]
              refine tk (v := ?_) 30 rfl (by kernel_rfl) (by rfl) ?_ ?_
              rotate_left
              · (intro w hSw; (try dsimp only at hSw); go_simp; try with_reducible rfl)
              try simp only [Act.put]
              refine tk (v := ?_) 31 rfl (by kernel_rfl) (by rfl) ?_ ?_
              rotate_left
              · (intro w hSw; (try dsimp only at hSw); go_simp; try with_reducible rfl)
              try simp only [Act.put]
              refine tk (v := ?_) 32 rfl (by kernel_rfl) (by rfl) ?_ ?_
              rotate_left
              · (intro w hSw; (try dsimp only at hSw); go_simp; try with_reducible rfl)
              try simp only [Act.put]
              refine tk (v := ?_) 33 rfl (by kernel_rfl) (by rfl) ?_ ?_
              rotate_left
              · (intro w hSw; (try dsimp only at hSw); go_simp; try with_reducible rfl)
              try simp only [Act.put]
              refine tk (v := ?_) 34 rfl (by kernel_rfl) (by rfl) ?_ ?_
              rotate_left
              · (intro w hSw; (try dsimp only at hSw); go_simp; try with_reducible rfl)
              try simp only [Act.put]
              refine tk (v := ?_) 35 rfl (by kernel_rfl) (by rfl) ?_ ?_
              rotate_left
              · (intro w hSw; (try dsimp only at hSw); go_simp; try with_reducible rfl)
              try simp only [Act.put]
              refine wpAnyH_ready (rs := [36]) (by kernel_rfl) (by simp) ?_
              refine AllReadyH.cons rfl (fun K_ hK => ?_) AllReadyH.nil
              go_simp
              refine (refOver_any qv qa pv pa o4 o5 o6 o7 o0 o1 o2 o3 _ rv ra HRR).mono ?_
              unfold pixV
              rintro e wx ⟨rfl, hbx⟩
              have HG9 := hid_of (HGD.out.on hbx)
              obtain ⟨u0, u1, hu0, hu1, hf0, hf1⟩ := HG9.out.slot HLC.out hKn
              clear hbx
              refine hK.out _ _ ?_ (fun hHeld => ?_)
              · exact KEEP.out _ _ HG9.out
              clear hK K_
              refine tk (v := ?_) 37 rfl (by kernel_rfl) (by rfl) ?_ ?_
              rotate_left
              · (intro w hSw; (try dsimp only at hSw); go_simp; try with_reducible rfl)
              try simp only [Act.put, List.setIfInBounds_toArray]
              refine wpAnyH_ready (rs := [38]) (by kernel_rfl) (by simp) ?_
              refine AllReadyH.cons rfl (fun K_ hK => ?_) AllReadyH.nil
              go_simp
              refine hK.out _ _ ?_ (fun hHeld => ?_)
              · exact KEEP.out _ _ (HG9.out.store RP.out RQ.out hg3 hgb K rv ra)
              clear hK K_
              refine wpAnyH_done (by kernel_rfl) ?_ _
              go_wp2_with fail
              have HSN : Hid (Gld w (PW' : Int) (PH' : Int) (.slice (some ⟨gp, op, none⟩) np cp) id x y (QW' : Int) (QH' : Int) (.slice (some ⟨gq_, oq, none⟩) nq cq) a b c d true ps qs W0.heap.size g np co bo (gridL PW' (PW' * PH') (uptoC (layC QW' QH' x y a b c d true) V (U + 1)) (gq (fun p q => Fb.overL q.1 q.2 p.1 p.2) PW' ps QW' qs x y) ps) ((wx.setCell ⟨g, K * 2, none⟩ (.int .i64 rv)).setCell ⟨g, K * 2 + 1, none⟩ (.int .i64 ra))) := by
                have h := HG9.out.store RP.out RQ.out hg3 hgb K rv ra
                have e : (gridL PW' (PW' * PH') (uptoC (layC QW' QH' x y a b c d true) V U) (gq (fun p q => Fb.overL q.1 q.2 p.1 p.2) PW' ps QW' qs x y) ps).set K (rv, ra) = gridL PW' (PW' * PH') (uptoC (layC QW' QH' x y a b c d true) V (U + 1)) (gq (fun p q => Fb.overL q.1 q.2 p.1 p.2) PW' ps QW' qs x y) ps := by
                  rw [← HGQ.out, ← HKE.out]; exact refG_set _ _ _ _ _ _ _ hU2 hV2 hC
                rw [e] at h
                exact h
              go_roundw
              case rel => exact ⟨U + 1, by omega, by go_num, HSN⟩
              case measure => simp [intOf]; omega
            · have hC' : layC QW' QH' x y a b c d sh U V = false := by simpa using hC
              have hcc : (sh && (h1 && h2)) = false := by have h := hC'; unfold layC at h; rw [HH1.out, HH2.out] at h; exact h
              have HSN : Hid (Gld w (PW' : Int) (PH' : Int) (.slice (some ⟨gp, op, none⟩) np cp) id x y (QW' : Int) (QH' : Int) (.slice (some ⟨gq_, oq, none⟩) nq cq) a b c d sh ps qs W0.heap.size g np co bo (gridL PW' (PW' * PH') (uptoC (layC QW' QH' x y a b c d sh) V (U + 1)) (gq (fun p q => Fb.overL q.1 q.2 p.1 p.2) PW' ps QW' qs x y) ps) w8) := by have h := HS8.out; rw [refG_skip _ _ _ _ _ _ _ hC'] at h; exact h
              obtain ⟨_, ⟨_, _, _, _, _, _, _, _, _, _, k10, _, _, _, _, _, _, _, _, _, _, _, _⟩, _, _, _⟩ := HS8.out.gl
              cases sh <;> cases h1 <;> cases h2 <;> first | (exfalso; simp at hcc; done) | skip
              all_goals
                go_wp2_with fail
                go_roundw
                case rel => exact ⟨U + 1, by omega, by go_num, HSN⟩
                case measure => simp [intOf]; omega
          · obtain ⟨⟨p0, p1, p2, _, _, _, _⟩, _, _, _, _⟩ := HS.out.gl
            have hUE : U = PW' := by omega
            have HSN : Hid (Gld w (PW' : Int) (PH' : Int) (.slice (some ⟨gp, op, none⟩) np cp) id x y (QW' : Int) (QH' : Int) (.slice (some ⟨gq_, oq, none⟩) nq cq) a b c d sh ps qs W0.heap.size g np co bo (gridL PW' (PW' * PH') (uptoC (layC QW' QH' x y a b c d sh) (V + 1) 0) (gq (fun p q => Fb.overL q.1 q.2 p.1 p.2) PW' ps QW' qs x y) ps) wr) := by have h := HS.out; rw [hUE, refG_row _ _ _ _ _ _ (by omega)] at h; exact h
            go_wp2_with fail
            go_roundw
            case rel => exact ⟨V + 1, by omega, by go_num, HSN⟩
            case measure => simp [intOf]; omega
      · have hVE : V = PH' := by omega
        have ho := HS.out.own
        rw [hVE, layC_end _ _ _ _ _ _ _ _ _ _ _ _ _ (by omega) hlen] at ho
        have HOF := hide_own ho
        obtain ⟨⟨p0, p1, p2, _, _, _, _⟩, _, _, _, hbw⟩ := HS.out.gl
        obtain ⟨r0, r1, r2, f0, f1, f2, _⟩ := HS.out.tr
        obtain ⟨t0, t1, t2, _, _, _, _⟩ := HS.out.to
        go_wp2_with fail
        have HWB : Hid (w.heap.size + 1 + 1 < W0.heap.size) := by have := HSZ.out; unfold Hid; omega
        refine bodyPost_ret (v := .agg #[.int .i64 (PW' : Int), .int .i64 (PH' : Int), .slice (some ⟨g, 0, none⟩) np co]) (by simp [results, Tryd.results36, go_sem, r0, r1, r2]) rfl ⟨_, rfl, ?_, ?_⟩
        · rw [lay_len, HNP.out]
          have hlt := HWB.out
          refine own_mono (B := W0.heap.size) ?_ (by omega)
          refine ownsRow_setCell_below (ownsRow_setCell_below (ownsRow_setCell_below HOF.out ?_ _) ?_ _) ?_ _
          all_goals (simp; omega)
        · refine ((hbw.setCell ?_ _).setCell ?_ _).setCell ?_ _
          all_goals (simp; try omega)
theorem laid_any (PW PH QW QH : Nat) (vp vq : Value) (ps qs : List (Int × Int)) (id x y a b c d : Int) (sh : Bool) (w : World) (HP : Hid (checkL PW PH ps = 0)) (HQ : Hid (checkL QW QH qs = 0)) (RP : Hid (RdP w vp ps)) (RQ : Hid (RdP w vq qs))
    (hx : -20 ≤ x) (hx2 : x ≤ 20) (hy : -20 ≤ y) (hy2 : y ≤ 20) (ha : -20 ≤ a) (ha2 : a ≤ 20) (hb : -20 ≤ b) (hb2 : b ≤ 20) (hc : 0 ≤ c) (hc2 : c ≤ 20) (hd : 0 ≤ d) (hd2 : d ≤ 20) :
    Calls Tryd.prog 36 #[picV PW PH vp, objV id x y QW QH vq a b c d sh] w
      fun e w' => ∃ v', e = .returned (picV PW PH v') ∧ RdP w' v' (layL PW ps QW QH qs x y a b c d sh) ∧ Below w.heap.size w w' := by
  refine (laid_own PW PH QW QH vp vq ps qs id x y a b c d sh w HP HQ RP RQ hx hx2 hy hy2 ha ha2 hb hb2 hc hc2 hd hd2).mono ?_
  rintro e w' ⟨v', h1, h2, h3⟩
  exact ⟨v', h1, rdP_own h2, h3⟩
end Go.Proofs.YtjmkfcgnadpbaaaDoor
