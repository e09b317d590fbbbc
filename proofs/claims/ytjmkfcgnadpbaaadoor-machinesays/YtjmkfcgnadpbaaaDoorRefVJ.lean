/- Walk: the reference's SeenOf. -/
import Derived.Test.YtjmkfcgnadpbaaaDoorM9
import Derived.Test.YtjmkfcgnadpbaaaDoorLaidWJ
import Derived.Maps.AppendAt
import Derived.StillTailTactics
namespace Go.Proofs.YtjmkfcgnadpbaaaDoor
open Go.RowKit

/-- what holds on the road of SeenOf -/
structure Gsn (w : World) (bv ba W H : Int) (v : Value) (wr : World) : Prop where
  b0 : wr.cell? ⟨w.heap.size, 0, none⟩ = some (.int .i64 bv)
  b1 : wr.cell? ⟨w.heap.size, 1, none⟩ = some (.int .i64 ba)
  tr : Three wr (w.heap.size + 1) (.int .i64 0) (.int .i64 0) (.slice none 0 0)
  to : Three wr (w.heap.size + 1 + 1) (.int .i64 W) (.int .i64 H) v
  bel : Below w.heap.size w wr
section
variable {w wr w2 : World} {bv ba W H : Int} {v : Value}
theorem Gsn.onB (h : Gsn w bv ba W H v wr) (hb : Below (w.heap.size + 3) wr w2) : Gsn w bv ba W H v w2 :=
  ⟨(hb.cell (p := ⟨w.heap.size, 0, none⟩) (by simp)).trans h.b0, (hb.cell (p := ⟨w.heap.size, 1, none⟩) (by simp)).trans h.b1, h.tr.onB hb (by omega), h.to.onB hb (by omega), h.bel.trans (hb.mono (by omega))⟩
theorem Gsn.size (h : Gsn w bv ba W H v wr) : w.heap.size + 3 ≤ wr.heap.size := by have := h.to.lt; omega
theorem Gsn.on (h : Gsn w bv ba W H v wr) (hb : Below wr.heap.size wr w2) : Gsn w bv ba W H v w2 := h.onB (hb.mono h.size)
theorem Gsn.set2 (h : Gsn w bv ba W H v wr) (v' : Value) : Gsn w bv ba W H v' (wr.setCell ⟨w.heap.size + 1 + 1, 2, none⟩ v') := by
  refine ⟨?_, ?_, h.tr.other (by omega), h.to.set2, h.bel.setCell (by simp; omega) _⟩
  · exact (World.cell?_of_block (Below.heap_setCell _ ⟨w.heap.size + 1 + 1, 2, none⟩ _ w.heap.size (by simp; omega))).trans h.b0
  · exact (World.cell?_of_block (Below.heap_setCell _ ⟨w.heap.size + 1 + 1, 2, none⟩ _ w.heap.size (by simp; omega))).trans h.b1
theorem Gsn.set_all (h : Gsn w bv ba W H v wr) (v' : Value) : Gsn w bv ba W H v' (((wr.setCell ⟨w.heap.size + 1 + 1, 0, none⟩ (.int .i64 W)).setCell ⟨w.heap.size + 1 + 1, 1, none⟩ (.int .i64 H)).setCell ⟨w.heap.size + 1 + 1, 2, none⟩ v') := by
  refine ⟨?_, ?_, ((h.tr.other (by omega)).other (by omega)).other (by omega), h.to.set_all _ _ _, ((h.bel.setCell (by simp; omega) _).setCell (by simp; omega) _).setCell (by simp; omega) _⟩
  · exact (World.cell?_of_block (Below.heap_setCell _ ⟨w.heap.size + 1 + 1, 2, none⟩ _ w.heap.size (by simp; omega))).trans ((World.cell?_of_block (Below.heap_setCell _ ⟨w.heap.size + 1 + 1, 1, none⟩ _ w.heap.size (by simp; omega))).trans ((World.cell?_of_block (Below.heap_setCell _ ⟨w.heap.size + 1 + 1, 0, none⟩ _ w.heap.size (by simp; omega))).trans h.b0))
  · exact (World.cell?_of_block (Below.heap_setCell _ ⟨w.heap.size + 1 + 1, 2, none⟩ _ w.heap.size (by simp; omega))).trans ((World.cell?_of_block (Below.heap_setCell _ ⟨w.heap.size + 1 + 1, 1, none⟩ _ w.heap.size (by simp; omega))).trans ((World.cell?_of_block (Below.heap_setCell _ ⟨w.heap.size + 1 + 1, 0, none⟩ _ w.heap.size (by simp; omega))).trans h.b1))
end
theorem px_app {B : Nat} {X : World} {v : Value} {k : Nat} {ps : List (Int × Int)} (h : X.ownsRow B 42 2 v k (pixCells ps)) (hk : k ≤ 1000) (hB : B ≤ X.heap.size) (a b : Int) :
    ∃ v' w', (Builtin.append_ #[47, 47] 47 #[v, .slice (some ⟨X.heap.size, 0, none⟩) 1 1]).run Tryd.prog (X.alloc (.cells #[.int .i64 a, .int .i64 b] 42)) = .ok v' w' ∧ w'.ownsRow B 42 2 v' (k + 1) (pixCells (ps ++ [(a, b)])) ∧ Below B X w' := by
  obtain ⟨i0, hi, hz0, hz1, hz2⟩ := info_parts Tryd.infoPix
  have hx : Below X.heap.size X (X.alloc (.cells #[.int .i64 a, .int .i64 b] 42)) := (Below.refl _ _).alloc (Nat.le_refl _) _
  have h1 := own_on2 h hx
  have hs : B ≤ (X.alloc (.cells #[.int .i64 a, .int .i64 b] 42)).heap.size := by simp; omega
  obtain ⟨v', w', hrun, r1, r2, _, r4⟩ := run_append_own_at (P := Tryd.prog) (X.alloc (.cells #[.int .i64 a, .int .i64 b] 42)) B 47 47 42 i0 (.agg #[.int .i64 0, .int .i64 0]) 2 16 Tryd.underlying47 hi hz0 hz1 hz2 rfl (by decide) v k (pixCells ps) h1 ⟨X.heap.size, 0, none⟩ 1 1 (pixCells [(a, b)]) rfl (fun j u hj => new_cells X _ _ j u hj) (pixCells_one _) (by unfold maxLen; omega) (by omega) hs
  refine ⟨v', w', hrun, ?_, (hx.mono hB).grown r2 hs (fun z hz => (h1.lt z hz).1)⟩
  rw [pixCells_app]; exact r1

set_option maxHeartbeats 8000000 in
set_option maxRecDepth 100000 in
theorem seenOf_own (v : Value) (os : List Po) (W H : Nat) (bv ba : Int) (w : World) (hos : os.length ≤ 1000) (hps : ∀ j, j < os.length → (os.getD j po0).ps.length ≤ 100) (hok : ∀ j, j < os.length → (os.getD j po0).fault' = 0) (HR : Hid (RdO w v os))
    (h1 : 1 ≤ W) (h2 : W ≤ 8) (h3 : 1 ≤ H) (h4 : H ≤ 8) (h5 : 0 ≤ bv) (h6 : bv ≤ 255) (h7 : 0 ≤ ba) (h8 : ba ≤ 255) :
    Calls Tryd.prog 25 #[v, .int .i64 (W : Int), .int .i64 (H : Int), pixV bv ba] w fun e w' => ∃ v', e = .returned (picV W H v') ∧ w'.ownsRow w.heap.size 42 2 v' (seenL W H (bv, ba) os).length (pixCells (seenL W H (bv, ba) os)) ∧ Below w.heap.size w w' := by
  obtain ⟨a, cap, hv, hl, hcap⟩ := HR.out.shape
  have HPS : Hid (∀ j, j < os.length → (os.getD j po0).ps.length ≤ 100) := hps
  have HOK : Hid (∀ j, j < os.length → (os.getD j po0).fault' = 0) := hok
  have HCK0 := hid_of2 (check_plain W H bv ba h1 h2 h3 h4 h5 h6 h7 h8)
  obtain ⟨n, HN⟩ : ∃ n, Hid (os.length = n) := ⟨_, (rfl : _ = _)⟩
  rw [HN.out] at hv hl hos
  clear hps hok
  subst hv
  obtain ⟨p, HP⟩ : ∃ p, Hid (W * H = p) := ⟨_, (rfl : _ = _)⟩
  have hp64 : p ≤ 64 := by
    have := Nat.mul_le_mul h2 h4
    rw [HP.out] at this
    exact this
  have hxy : (W : Int) * (H : Int) = (p : Int) := by rw [← HP.out]; simp
  unfold pixV picV
  have G0 : Hid (Gsn w bv ba (W : Int) (H : Int) (.slice none 0 0) (((w.alloc (.cells #[.int .i64 bv, .int .i64 ba] 42)).alloc (.cells #[.int .i64 0, .int .i64 0, .slice none 0 0] 49)).alloc (.cells #[.int .i64 W, .int .i64 H, .slice none 0 0] 49))) := by
    refine ⟨((((Below.refl (w.heap.size + 1) (w.alloc (.cells #[.int .i64 bv, .int .i64 ba] 42))).alloc (by simp) _).alloc (by simp; try omega) _).cell (p := ⟨w.heap.size, 0, none⟩) (by simp)).trans (by simp), ((((Below.refl (w.heap.size + 1) (w.alloc (.cells #[.int .i64 bv, .int .i64 ba] 42))).alloc (by simp) _).alloc (by simp; try omega) _).cell (p := ⟨w.heap.size, 1, none⟩) (by simp)).trans (by simp), (three_begin _ _ _ _ _ _ (by simp)).alloc _, three_begin _ _ _ _ _ _ (by simp), (((Below.refl _ _).alloc (Nat.le_refl _) _).alloc (by simp) _).alloc (by simp; omega) _⟩
  go_enter Tryd.func25, Tryd.ntmps25
  go_wp2_with fail
  go_loopw [10] (fun i wr => ∃ (k : Nat) (u : Value), k ≤ p ∧ i = .int .i64 k ∧ Hid (Gsn w bv ba (W : Int) (H : Int) u wr) ∧ Hid (wr.ownsRow (w.heap.size + 3) 42 2 u k (pixCells (List.replicate k (bv, ba))))) (fun i _ => p - (intOf i).toNat)
  case atStart => exact ⟨0, _, by omega, rfl, G0, World.ownsRow_nil _ _ _ _⟩
  case round =>
    clear G0
    obtain ⟨k, u, hk, rfl, HG, HO⟩ := hrel
    by_cases hlt : k < p
    · have hki : (k : Int) < (p : Int) := by omega
      obtain ⟨u', w', hr, ho, hb⟩ := px_app HO.out (by omega) HG.out.size bv ba
      obtain ⟨a', c', hv'⟩ := own_any ho
      subst hv'
      have HRN := hid_of2 hr
      have HG2 := hid_of2 (HG.out.onB hb)
      have HG3 := hid_of2 (HG2.out.set2 (.slice a' (k + 1) c'))
      have HO3 : Hid ((w'.setCell ⟨w.heap.size + 1 + 1, 2, none⟩ (.slice a' (k + 1) c')).ownsRow (w.heap.size + 3) 42 2 (.slice a' (k + 1) c') (k + 1) (pixCells (List.replicate (k + 1) (bv, ba)))) := by
        rw [List.replicate_succ']
        exact ownsRow_setCell_below ho (by simp; try omega) _
      obtain ⟨b0, b1, _, ⟨t0, t1, t2, tf0, tf1, tf2, tlt⟩, _⟩ := HG.out
      obtain ⟨_, _, _, ⟨s0, s1, s2, sf0, sf1, sf2, slt⟩, _⟩ := HG2.out
      clear hr ho hb HG HO HG2
      go_wp2_with (at_builtin; refine Lib.wpList_append_run _ rfl _ _ _ _ rfl _ _ rfl rfl _ _ HRN.out ?_)
      go_roundw
      case rel => exact ⟨k + 1, _, by omega, by go_num, HG3, HO3⟩
      case measure => simp [intOf]; omega
    · have hki : ¬ (k : Int) < (p : Int) := by omega
      obtain rfl : p = k := by omega
      have HRP : Hid (RdP wr u (List.replicate p (bv, ba))) := by
        refine rdP_own (B := w.heap.size + 3) ?_
        rw [List.length_replicate]; exact HO.out
      have HSN : Hid (seenL W H (bv, ba) (os.take 0) = List.replicate p (bv, ba)) := by unfold Hid seenL; rw [HP.out]; rfl
      have HOS : Hid (wr.ownsRow (w.heap.size + 3) 42 2 u (seenL W H (bv, ba) (os.take 0)).length (pixCells (seenL W H (bv, ba) (os.take 0)))) := by unfold Hid; rw [HSN.out, List.length_replicate]; exact HO.out
      have HC0 : Hid (checkL (W : Int) (H : Int) (seenL W H (bv, ba) (os.take 0)) = 0) := HCK0.out
      clear HO HRP HSN HCK0
      go_wp2_with fail
      go_loopw [11] (fun i wr => ∃ (k : Nat) (u : Value), k ≤ n ∧ i = .int .i64 k ∧ Hid (Gsn w bv ba (W : Int) (H : Int) u wr) ∧ Hid (wr.ownsRow (w.heap.size + 3) 42 2 u (seenL W H (bv, ba) (os.take k)).length (pixCells (seenL W H (bv, ba) (os.take k)))) ∧ Hid (checkL (W : Int) (H : Int) (seenL W H (bv, ba) (os.take k)) = 0)) (fun i _ => n - (intOf i).toNat)
      case atStart => exact ⟨0, _, by omega, rfl, HG, HOS, HC0⟩
      case round =>
        clear HG HOS HC0
        obtain ⟨k, u, hk, rfl, HG, HO, HCK⟩ := hrel
        by_cases hlt : k < n
        · have hlt' : k < os.length := by rw [HN.out]; exact hlt
          obtain ⟨o, HX⟩ : ∃ o, Hid (os.getD k po0 = o) := ⟨_, (rfl : _ = _)⟩
          have HF : Hid (o.fault' = 0) := by unfold Hid; rw [← HX.out]; exact HOK.out k hlt'
          have HS2 : Hid (seenL W H (bv, ba) (os.take (k + 1)) = layO W (seenL W H (bv, ba) (os.take k)) o) := by
            unfold Hid seenL
            rw [List.take_succ_eq_append_getElem hlt', List.foldl_append, ← HX.out, List.getD_eq_getElem?_getD, List.getElem?_eq_getElem hlt']
            rfl
          obtain ⟨g', q, ua, m, uc, rfl, hg, OC, HU, HM⟩ := (HR.out.on HG.out.bel).at hlt HX
          obtain ⟨c0, c1, c2, c3, c4, c5, c6, c7, c8, c9, c10⟩ := OC
          obtain ⟨L, HL⟩ : ∃ L, Hid (seenL W H (bv, ba) (os.take k) = L) := ⟨_, (rfl : _ = _)⟩
          rw [HL.out] at HS2 HO HCK
          have HCK2 := layO_check W H L o HCK.out HF.out
          obtain ⟨id, x, y, pw, ph, ps, cx, cy, cw, ch, sh⟩ := o
          simp only at c0 c1 c2 c3 c4 c5 c6 c7 c8 c9 c10 HU HM
          obtain ⟨z1, z2, z3, z4, z5, z6, z7, z8, z9, z10, z11, z12, z13, z14, z15⟩ := objC_zero _ _ _ _ _ _ _ _ _ _ HF.out
          obtain ⟨QW, QH, e1, e2, _⟩ := check_zero _ _ _ z15
          subst e1 e2
          have HQ := hid_of z15
          have HS3 : Hid (seenL W H (bv, ba) (os.take (k + 1)) = layL W L QW QH ps x y cx cy cw ch sh) := HS2.out
          have HCK3 : Hid (checkL (W : Int) (H : Int) (layL W L QW QH ps x y cx cy cw ch sh) = 0) := HCK2
          have hki0 : (0 : Int) ≤ (k : Int) := by omega
          have hki1 : (k : Int) < (n : Int) := by omega
          have HUd : Hid (RdP wr.drew (.slice ua m uc) ps) := HU.out.on (Below.refl _ _).drew
          have HRd : Hid (RdP wr.drew u L) := rdP_own (own_on2 HO.out (Below.refl _ _).drew)
          have hlay := laid_own W H QW QH u (.slice ua m uc) L ps id x y cx cy cw ch sh wr.drew HCK HQ HRd HUd z3 z4 z5 z6 z7 z8 z9 z10 z11 z12 z13 z14
          unfold picV objV at hlay
          have HLAY := hid_of2 hlay
          obtain ⟨b0, b1, _, ⟨t0, t1, t2, tf0, tf1, tf2, tlt⟩, _⟩ := HG.out
          clear hlay hlt' HX HF z1 z2 z15 HS2 HCK2 HL HU HRd HUd
          go_wp2_with fail
          go_still_tail 5, (by kernel_rfl)
          go_wp2_with fail
          refine HLAY.out.mono ?_
          rintro e w2 ⟨v2, rfl, ho2, hb2⟩
          obtain ⟨m2, HM2⟩ : ∃ m2, Hid ((layL W L QW QH ps x y cx cy cw ch sh).length = m2) := ⟨_, (rfl : _ = _)⟩
          obtain ⟨a2, k2, hv2⟩ := own_any ho2
          rw [HM2.out] at hv2
          subst hv2
          have hbd : Below wr.heap.size wr w2 := (Below.refl wr.heap.size wr).drew.trans hb2
          have HG2 := hid_of2 (HG.out.on hbd)
          have HG3 := hid_of2 (HG2.out.set_all (.slice a2 m2 k2))
          have hro := own_mono ho2 (show w.heap.size + 3 ≤ wr.drew.heap.size from HG.out.size)
          have HRO : Hid (World.ownsRow (((w2.setCell ⟨w.heap.size + 1 + 1, 0, none⟩ (.int .i64 W)).setCell ⟨w.heap.size + 1 + 1, 1, none⟩ (.int .i64 H)).setCell ⟨w.heap.size + 1 + 1, 2, none⟩ (.slice a2 m2 k2)) (w.heap.size + 3) 42 2 (.slice a2 m2 k2) (seenL W H (bv, ba) (os.take (k + 1))).length (pixCells (seenL W H (bv, ba) (os.take (k + 1))))) := by
            unfold Hid
            rw [HS3.out]
            exact ownsRow_setCell_below (ownsRow_setCell_below (ownsRow_setCell_below hro (by simp; try omega) _) (by simp; try omega) _) (by simp; try omega) _
          have HCK4 : Hid (checkL (W : Int) (H : Int) (seenL W H (bv, ba) (os.take (k + 1))) = 0) := by unfold Hid; rw [HS3.out]; exact HCK3.out
          obtain ⟨_, _, _, ⟨s0, s1, s2, sf0, sf1, sf2, slt⟩, _⟩ := HG2.out
          clear ho2 hb2 hro hbd HLAY HG2 HG HO HCK3 HS3 b0 b1 t0 t1 t2 tf0 tf1 tf2 tlt c0 c1 c2 c3 c4 c5 c6 c7 c8 c9 c10
          go_wp2_with fail
          go_roundw
          case rel => exact ⟨k + 1, _, by omega, by go_num, HG3, HRO, HCK4⟩
          case measure => simp [intOf]; omega
        · have hki : ¬ (k : Int) < (n : Int) := by omega
          obtain rfl : n = k := by omega
          have htk : os.take n = os := List.take_of_length_le (by rw [HN.out]; omega)
          rw [htk] at HO
          obtain ⟨_, _, ⟨r0, r1, r2, rf0, rf1, rf2, rlt⟩, ⟨t0, t1, t2, tf0, tf1, tf2, tlt⟩, hbw⟩ := HG.out
          have HBW := hid_of2 hbw
          clear htk hbw HG HCK
          obtain ⟨a3, c3, hv3⟩ := own_any HO.out
          subst hv3
          go_wp2_with fail
          refine bodyPost_ret (v := .agg #[.int .i64 (W : Int), .int .i64 (H : Int), .slice a3 (seenL W H (bv, ba) os).length c3]) (by simp [results, Tryd.results25, go_sem, r0, r1, r2]) rfl ⟨_, rfl, ?_, ?_⟩
          · refine own_mono (?_ : World.ownsRow _ (w.heap.size + 3) _ _ _ _ _) (by omega)
            refine ownsRow_setCell_below (ownsRow_setCell_below (ownsRow_setCell_below HO.out ?_ _) ?_ _) ?_ _
            all_goals (simp; try omega)
          · refine ((HBW.out.setCell ?_ _).setCell ?_ _).setCell ?_ _
            all_goals (simp; try omega)
theorem seenOf_any (v : Value) (os : List Po) (W H : Nat) (bv ba : Int) (w : World) (hos : os.length ≤ 1000) (hps : ∀ j, j < os.length → (os.getD j po0).ps.length ≤ 100) (hok : ∀ j, j < os.length → (os.getD j po0).fault' = 0) (HR : Hid (RdO w v os))
    (h1 : 1 ≤ W) (h2 : W ≤ 8) (h3 : 1 ≤ H) (h4 : H ≤ 8) (h5 : 0 ≤ bv) (h6 : bv ≤ 255) (h7 : 0 ≤ ba) (h8 : ba ≤ 255) :
    Calls Tryd.prog 25 #[v, .int .i64 (W : Int), .int .i64 (H : Int), pixV bv ba] w fun e w' => ∃ v', e = .returned (picV W H v') ∧ RdP w' v' (seenL W H (bv, ba) os) ∧ Below w.heap.size w w' := by
  refine (seenOf_own v os W H bv ba w hos hps hok HR h1 h2 h3 h4 h5 h6 h7 h8).mono ?_
  rintro e w' ⟨v', e1, e2, e3⟩
  exact ⟨v', e1, rdP_own e2, e3⟩
end Go.Proofs.YtjmkfcgnadpbaaaDoor
