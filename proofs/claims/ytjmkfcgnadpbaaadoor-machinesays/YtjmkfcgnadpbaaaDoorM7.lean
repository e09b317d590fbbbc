/- Some of the walks, in one text. -/
import Derived.Test.YtjmkfcgnadpbaaaDoorM6
import Derived.Maps.OwnOps
import Derived.Maps.OwnSet
import Derived.OneCell
import Derived.Lib.BufferWrite
import Derived.Maps.Own
import Derived.Maps.Views
import Derived.StillTailTactics
import Derived.Maps.AppendAt
/- Walks: objects.Seen. -/
namespace Go.Proofs.YtjmkfcgnadpbaaaDoor
open Go.RowKit

set_option maxHeartbeats 2000000 in
set_option maxRecDepth 100000 in
theorem seenC_any (id x y pw ph : Int) (u : Value) (ps : List (Int × Int)) (cx cy cw ch : Int) (sh : Bool) (w : World) (hps : ps.length ≤ 1000000000) (HR : Hid (RdP w u ps)) (HC : Hid (objC id x y pw ph ps cx cy cw ch = 0)) :
    Calls Tryd.prog 66 #[objV id x y pw ph u cx cy cw ch sh] w fun e w' => e = .returned (.bool false) ∧ Below w.heap.size w w' := by
  have hbz : Below w.heap.size w (w.alloc (.cells #[.int .i64 id, .int .i64 x, .int .i64 y, .int .i64 pw, .int .i64 ph, u, .int .i64 cx, .int .i64 cy, .int .i64 cw, .int .i64 ch, .bool sh] 80)) := (Below.refl _ _).alloc (Nat.le_refl _) _
  have HR0 : Hid (RdP _ _ _) := HR.out.on hbz
  unfold objV
  go_enter Tryd.func66, Tryd.ntmps66
  go_wp2_with fail
  refine (ocheck_any id x y pw ph u ps cx cy cw ch sh _ hps HR0 0 HC).mono ?_
  rintro e w1 ⟨rfl, hb1⟩
  rw [show errV 0 = Value.nilIface from rfl]
  go_wp2_with fail
  go_ret
  exact ⟨rfl, hbz.trans (hb1.mono hbz.size)⟩

set_option maxHeartbeats 2000000 in
set_option maxRecDepth 100000 in
theorem indexO_any (v : Value) (os : List Po) (w : World) (hos : os.length ≤ 1000) (hps : ∀ j, j < os.length → (os.getD j po0).ps.length ≤ 100) (hok : ∀ j, j < os.length → (os.getD j po0).fault' = 0) (HR : Hid (RdO w v os)) :
    Calls Tryd.prog 78 #[v, .func (.func 66) #[] #[]] w fun e w' => e = .returned (.int .i64 (-1)) ∧ Below w.heap.size w w' := by
  obtain ⟨a, cap, hv, hl, hcap⟩ := HR.out.shape
  have HPS : Hid (∀ j, j < os.length → (os.getD j po0).ps.length ≤ 100) := hps
  have HOK : Hid (∀ j, j < os.length → (os.getD j po0).fault' = 0) := hok
  obtain ⟨n, HN⟩ : ∃ n, Hid (os.length = n) := ⟨_, (rfl : _ = _)⟩
  rw [HN.out] at hv hl hos
  clear hps hok
  subst hv
  have hbz : Below w.heap.size w w := Below.refl _ _
  go_enter Tryd.func78, Tryd.ntmps78
  go_wp2_with fail
  go_loopw [8] (fun i wr => ∃ k : Nat, k ≤ n ∧ i = .int .i64 k ∧ Below w.heap.size w wr) (fun i _ => n - (intOf i).toNat)
  case atStart => exact ⟨0, by omega, rfl, hbz⟩
  case round =>
    obtain ⟨k, hk, rfl, hbr⟩ := hrel
    by_cases hlt : k < n
    · have hlt' : k < os.length := by rw [HN.out]; exact hlt
      obtain ⟨o, HX⟩ : ∃ o, Hid (os.getD k po0 = o) := ⟨_, (rfl : _ = _)⟩
      have hpl : o.ps.length ≤ 100 := by rw [← HX.out]; exact HPS.out k hlt'
      have HF : Hid (o.fault' = 0) := by unfold Hid; rw [← HX.out]; exact HOK.out k hlt'
      obtain ⟨g, p, ua, q, uc, rfl, hg, OC, HU, HM⟩ := (HR.out.on hbr).at hlt HX
      obtain ⟨c0, c1, c2, c3, c4, c5, c6, c7, c8, c9, c10⟩ := OC
      obtain ⟨id, x, y, pw, ph, ps, cx, cy, cw, ch, sh⟩ := o
      simp only at c0 c1 c2 c3 c4 c5 c6 c7 c8 c9 c10 HU HM hpl
      have HF2 : Hid (objC id x y pw ph ps cx cy cw ch = 0) := HF.out
      clear hlt' HX HF
      have hki0 : (0 : Int) ≤ (k : Int) := by omega
      have hki1 : (k : Int) < (n : Int) := by omega
      go_wp2_with fail
      refine (seenC_any id x y pw ph _ ps cx cy cw ch sh _ (by omega) HU HF2).mono ?_
      rintro e w1 ⟨rfl, hb1⟩
      have hbw1 : Below w.heap.size w w1 := hbr.trans (hb1.mono hbr.size)
      go_wp2_with fail
      go_roundw
      case rel => exact ⟨k + 1, by omega, by go_num, hbw1⟩
      case measure => simp [intOf]; omega
    · obtain rfl : k = n := by omega
      go_wp2_with fail
      go_ret
      exact ⟨rfl, hbr⟩

set_option maxRecDepth 100000 in
theorem containsO_any (v : Value) (os : List Po) (w : World) (hos : os.length ≤ 1000) (hps : ∀ j, j < os.length → (os.getD j po0).ps.length ≤ 100) (hok : ∀ j, j < os.length → (os.getD j po0).fault' = 0) (HR : Hid (RdO w v os)) :
    Calls Tryd.prog 65 #[v, .func (.func 66) #[] #[]] w fun e w' => e = .returned (.bool false) ∧ Below w.heap.size w w' := by
  obtain ⟨a, cap, hv, _, _⟩ := HR.out.shape
  subst hv
  go_enter Tryd.func65, Tryd.ntmps65
  go_wp2_with fail
  refine (indexO_any _ os _ hos hps hok HR).mono ?_
  rintro e w1 ⟨rfl, hb1⟩
  go_wp2_with fail
  go_ret
  exact ⟨rfl, hb1⟩

/-- pixels read as before where another block's cell is stored into -/
theorem rdP_set {w : World} {u : Value} {ps : List (Int × Int)} (h : RdP w u ps) {b : Nat} (hne : ∀ z n c, u = .slice (some z) n c → z.block ≠ b) (j : Nat) (x : Value) : RdP (w.setCell ⟨b, j, none⟩ x) u ps := by
  obtain ⟨a, cap, hv, hl, hc, hh⟩ := h
  refine ⟨a, cap, hv, hl, hc, fun h0 => ?_⟩
  obtain ⟨g, off, ha, hg, hcell⟩ := hh h0
  have hgb : g ≠ b := hne ⟨g, off, none⟩ _ _ (by rw [hv, ha])
  refine ⟨g, off, ha, by simpa using hg, fun j' hj => ?_⟩
  rw [World.cell?_of_block (a := ⟨g, off + j' * 2, none⟩) (Below.heap_setCell w ⟨b, j, none⟩ x g (by simpa using hgb)), World.cell?_of_block (a := ⟨g, off + j' * 2 + 1, none⟩) (Below.heap_setCell w ⟨b, j, none⟩ x g (by simpa using hgb))]
  exact hcell j' hj
theorem check_plain (W H : Nat) (v a : Int) (h1 : 1 ≤ W) (h2 : W ≤ 8) (h3 : 1 ≤ H) (h4 : H ≤ 8) (h5 : 0 ≤ v) (h6 : v ≤ 255) (h7 : 0 ≤ a) (h8 : a ≤ 255) : checkL (W : Int) (H : Int) (List.replicate (W * H) (v, a)) = 0 := by
  have s1 : sideB (W : Int) = true := by unfold sideB; simp; omega
  have s2 : sideB (H : Int) = true := by unfold sideB; simp; omega
  unfold checkL
  rw [s1, s2, if_neg (by simp), if_neg (by simp), if_pos]
  rw [List.all_eq_true]
  intro x hx
  rw [(List.mem_replicate.1 hx).2]
  unfold okPix shadeB
  simp
  omega
theorem layO_check (W H : Nat) (ps : List (Int × Int)) (o : Po) (hp : checkL (W : Int) (H : Int) ps = 0) (ho : o.fault' = 0) : checkL (W : Int) (H : Int) (layL W ps o.pw.toNat o.ph.toNat o.ps o.x o.y o.cx o.cy o.cw o.ch o.sh) = 0 := by
  have hz := (objC_zero _ _ _ _ _ _ _ _ _ _ ho).2.2.2.2.2.2.2.2.2.2.2.2.2.2
  obtain ⟨PW, PH, e1, e2, _⟩ := check_zero _ _ _ hz
  refine lay_check W H ps _ _ _ _ _ _ _ _ _ _ hp ?_
  rw [e1, e2] at hz ⊢
  simpa using hz
/-- one object more is seen -/
def layO (W : Nat) (ps : List (Int × Int)) (o : Po) : List (Int × Int) := layL W ps o.pw.toNat o.ph.toNat o.ps o.x o.y o.cx o.cy o.cw o.ch o.sh
/-- what Seen answers -/
def seenL (W H : Nat) (back : Int × Int) (os : List Po) : List (Int × Int) := os.foldl (layO W) (List.replicate (W * H) back)

set_option maxHeartbeats 4000000 in
set_option maxRecDepth 100000 in
theorem seen_own (v : Value) (os : List Po) (W H : Nat) (bv ba : Int) (w : World) (hos : os.length ≤ 1000) (hps : ∀ j, j < os.length → (os.getD j po0).ps.length ≤ 100) (hok : ∀ j, j < os.length → (os.getD j po0).fault' = 0) (HR : Hid (RdO w v os))
    (h1 : 1 ≤ W) (h2 : W ≤ 8) (h3 : 1 ≤ H) (h4 : H ≤ 8) (h5 : 0 ≤ bv) (h6 : bv ≤ 255) (h7 : 0 ≤ ba) (h8 : ba ≤ 255) :
    Calls Tryd.prog 54 #[v, .int .i64 (W : Int), .int .i64 (H : Int), pixV bv ba] w fun e w' => ∃ v', e = .returned (picV W H v') ∧ w'.ownsRow (w.heap.size + 2) 42 2 v' (seenL W H (bv, ba) os).length (pixCells (seenL W H (bv, ba) os)) ∧ Below w.heap.size w w' := by
  obtain ⟨a, cap, hv, hl, hcap⟩ := HR.out.shape
  have HPS : Hid (∀ j, j < os.length → (os.getD j po0).ps.length ≤ 100) := hps
  have HOK : Hid (∀ j, j < os.length → (os.getD j po0).fault' = 0) := hok
  obtain ⟨n, HN⟩ : ∃ n, Hid (os.length = n) := ⟨_, (rfl : _ = _)⟩
  have hos2 := hos
  rw [HN.out] at hv hl hos
  clear hps hok
  subst hv
  unfold pixV
  go_enter Tryd.func54, Tryd.ntmps54
  obtain ⟨W0, HW0⟩ : ∃ W0, Hid ((w.alloc (.cells #[.int .i64 bv, .int .i64 ba] 42)).alloc (.cells #[.int .i64 0, .int .i64 0, .slice none 0 0] 49) = W0) := ⟨_, (rfl : _ = _)⟩
  have hb0 : Below w.heap.size w W0 := by rw [← HW0.out]; exact ((Below.refl _ _).alloc (Nat.le_refl _) _).alloc (by simp) _
  have hs0 : W0.heap.size = w.heap.size + 2 := by rw [← HW0.out]; simp
  have T0 : Three W0 (w.heap.size + 1) (.int .i64 0) (.int .i64 0) (.slice none 0 0) := by rw [← HW0.out]; exact three_begin _ _ _ _ _ _ (by simp)
  go_wp2_with fail
  rw [HW0.out]
  refine (plainO_any W H bv ba h1 h2 h3 h4 W0).mono ?_
  unfold picV
  rintro e w1 ⟨u1, rfl, ho1, hb1⟩
  have hm1 : 1 * 1 ≤ W * H := Nat.mul_le_mul h1 h3
  obtain ⟨g1, uc1, rfl, hg10, _, _⟩ := own_shape ho1 (by omega)
  have hgw : g1 ≠ w.heap.size + 1 := by omega
  have hg1 : g1 < w1.heap.size := (ho1.lt g1 rfl).2
  have HR1 : Hid (w1.ownsRow (w.heap.size + 2) 42 2 (Value.slice (some ⟨g1, 0, none⟩) (W * H) uc1) (List.replicate (W * H) (bv, ba)).length (pixCells (List.replicate (W * H) (bv, ba)))) := by unfold Hid; rw [List.length_replicate]; exact own_mono ho1 (by omega)
  obtain ⟨n1, HN1⟩ : ∃ n1, Hid (W * H = n1) := ⟨_, (rfl : _ = _)⟩
  rw [HN1.out]
  rw [show Value.slice (some ⟨g1, 0, none⟩) (W * H) uc1 = Value.slice (some ⟨g1, 0, none⟩) n1 uc1 by rw [HN1.out]] at HR1
  clear ho1 hg10
  have T1 := T0.on hb1
  have hbb1 := hb0.trans (hb1.mono hb0.size)
  have hb2 : Below w1.heap.size w1 (w1.alloc (.cells #[.int .i64 (W : Int), .int .i64 (H : Int), .slice (some ⟨g1, 0, none⟩) n1 uc1] 49)) := (Below.refl _ _).alloc (Nat.le_refl _) _
  have T2 := T1.on hb2
  have P2 := three_begin w1 (.int .i64 (W : Int)) (.int .i64 (H : Int)) (.slice (some ⟨g1, 0, none⟩) n1 uc1) 49 w1.heap.size rfl
  have HR2 := hid_of (own_on2 HR1.out hb2)
  have hbb2 := hbb1.trans (hb2.mono hbb1.size)
  have hw1 : w.heap.size + 2 ≤ w1.heap.size := by have := hb1.size; omega
  have HRO2 : Hid (RdO (w1.alloc (.cells #[.int .i64 (W : Int), .int .i64 (H : Int), .slice (some ⟨g1, 0, none⟩) n1 uc1] 49)) (.slice a n cap) os) := HR.out.on hbb2
  clear hb0 hb1 hb2 T0 T1 HR1 hbb1 HW0 hs0
  go_wp2_with fail
  refine (containsO_any _ os _ hos2 HPS.out HOK.out HRO2).mono ?_
  rintro e w3 ⟨rfl, hb3⟩
  have T3 := hid_of (T2.on hb3)
  have P3 := hid_of (P2.on hb3)
  have HR3 := hid_of (own_on2 HR2.out hb3)
  have hbb3 := hbb2.trans (hb3.mono hbb2.size)
  obtain ⟨bp, HBP⟩ : ∃ bp, Hid (w1.heap.size = bp) := ⟨_, (rfl : _ = _)⟩
  rw [HBP.out] at hw1 hg1 P3
  have hgb : g1 ≠ bp := by omega
  clear hbb2 hb3 T2 P2 HR2 HRO2 hg1
  go_wp2_with fail
  rw [HBP.out]
  clear HBP
  go_loopw [21] (fun i wr => ∃ (k g c m : Nat), k ≤ n ∧ i = .int .i64 k ∧ g ≠ bp ∧ g ≠ w.heap.size + 1 ∧ bp < wr.heap.size ∧ Hid (Three wr bp (.int .i64 (W : Int)) (.int .i64 (H : Int)) (.slice (some ⟨g, 0, none⟩) m c)) ∧ Hid (Three wr (w.heap.size + 1) (.int .i64 0) (.int .i64 0) (.slice none 0 0)) ∧ Hid (wr.ownsRow (w.heap.size + 2) 42 2 (.slice (some ⟨g, 0, none⟩) m c) (seenL W H (bv, ba) (os.take k)).length (pixCells (seenL W H (bv, ba) (os.take k)))) ∧ Hid (checkL (W : Int) (H : Int) (seenL W H (bv, ba) (os.take k)) = 0) ∧ Below w.heap.size w wr) (fun i _ => n - (intOf i).toNat)
  case atStart => exact ⟨0, g1, uc1, n1, by omega, rfl, hgb, hgw, P3.out.lt, P3, T3, HR3, check_plain W H bv ba h1 h2 h3 h4 h5 h6 h7 h8, hbb3⟩
  case round =>
    obtain ⟨k, g, c, m, hk, rfl, hgn, hgw2, hbp, HP, HT, HRP, HCK, hbr⟩ := hrel
    by_cases hlt : k < n
    · have hlt' : k < os.length := by rw [HN.out]; exact hlt
      obtain ⟨o, HX⟩ : ∃ o, Hid (os.getD k po0 = o) := ⟨_, (rfl : _ = _)⟩
      have hpl : o.ps.length ≤ 100 := by rw [← HX.out]; exact HPS.out k hlt'
      have HF : Hid (o.fault' = 0) := by unfold Hid; rw [← HX.out]; exact HOK.out k hlt'
      have HS2 : Hid (seenL W H (bv, ba) (os.take (k + 1)) = layO W (seenL W H (bv, ba) (os.take k)) o) := by
        unfold Hid seenL
        rw [List.take_succ_eq_append_getElem hlt', List.foldl_append, ← HX.out, List.getD_eq_getElem?_getD, List.getElem?_eq_getElem hlt']
        rfl
      obtain ⟨g', p, ua, q, uc, rfl, hg, OC, HU, HM⟩ := (HR.out.on hbr).at hlt HX
      obtain ⟨c0, c1, c2, c3, c4, c5, c6, c7, c8, c9, c10⟩ := OC
      obtain ⟨L, HL⟩ : ∃ L, Hid (seenL W H (bv, ba) (os.take k) = L) := ⟨_, (rfl : _ = _)⟩
      rw [HL.out] at HS2 HRP HCK
      have HCK2 := layO_check W H L o HCK.out HF.out
      obtain ⟨id, x, y, pw, ph, ps, cx, cy, cw, ch, sh⟩ := o
      simp only at c0 c1 c2 c3 c4 c5 c6 c7 c8 c9 c10 HU HM hpl
      obtain ⟨z1, z2, z3, z4, z5, z6, z7, z8, z9, z10, z11, z12, z13, z14, z15⟩ := objC_zero _ _ _ _ _ _ _ _ _ _ HF.out
      obtain ⟨QW, QH, e1, e2, _⟩ := check_zero _ _ _ z15
      subst e1 e2
      have HQ := hid_of z15
      have HS3 : Hid (seenL W H (bv, ba) (os.take (k + 1)) = layL W L QW QH ps x y cx cy cw ch sh) := HS2.out
      have HCK3 : Hid (checkL (W : Int) (H : Int) (layL W L QW QH ps x y cx cy cw ch sh) = 0) := HCK2
      clear hlt' HX HF z1 z2 z15 HS2 HCK2 HL
      have hki0 : (0 : Int) ≤ (k : Int) := by omega
      have hki1 : (k : Int) < (n : Int) := by omega
      have hbx : Below wr.heap.size wr (wr.alloc (.cells #[.int .i64 id, .int .i64 x, .int .i64 y, .int .i64 (QW : Int), .int .i64 (QH : Int), .slice ua q uc, .int .i64 cx, .int .i64 cy, .int .i64 cw, .int .i64 ch, .bool sh] 80)) := (Below.refl _ _).alloc (Nat.le_refl _) _
      have HUX := hid_of (HU.out.on hbx)
      have HRX := hid_of (rdP_own (own_on2 HRP.out hbx))
      obtain ⟨p0, p1, p2, pf0, pf1, pf2, plt⟩ := HP.out.on hbx
      obtain ⟨q0, q1, q2, qf0, qf1, qf2, qlt⟩ := HP.out
      have HPX := hid_of (HP.out.on hbx)
      have HTX := hid_of (HT.out.on hbx)
      have hbX := hbr.trans (hbx.mono hbr.size)
      clear HU HRP HP HT hbx
      go_wp2_with fail
      refine (lay_any W H QW QH _ _ L ps id x y cx cy cw ch sh _ HCK HQ HRX HUX z3 z4 z5 z6 z7 z8 z9 z10 z11 z12 z13 z14).mono ?_
      unfold picV
      rintro e w2 ⟨v2, rfl, ho2, hb2⟩
      have hLne : (layL W L QW QH ps x y cx cy cw ch sh).length ≠ 0 := by
        rw [lay_len]
        obtain ⟨PW, PH, e1, e2, i1, i2, i3, i4, i5, _⟩ := check_zero _ _ _ HCK.out
        have : 1 * 1 ≤ PW * PH := Nat.mul_le_mul i1 i3
        omega
      obtain ⟨g2, c2', rfl, hg2, _, _⟩ := own_shape ho2 hLne
      have hg2b : g2 ≠ bp := by simp at hg2; omega
      have hg2w : g2 ≠ w.heap.size + 1 := by have := hbr.size; simp at hg2; omega
      have HRL := hid_of (own_mono ho2 (show w.heap.size + 2 ≤ _ by have := hbr.size; simp; omega))
      obtain ⟨m2, HM2⟩ : ∃ m2, Hid ((layL W L QW QH ps x y cx cy cw ch sh).length = m2) := ⟨_, (rfl : _ = _)⟩
      rw [HM2.out] at HRL
      have HP2 := hid_of (HPX.out.on hb2)
      have HT2 := hid_of (HTX.out.on hb2)
      have hbb := hbX.trans (hb2.mono hbX.size)
      have HRS := hid_of (ownsRow_setCell_other (ownsRow_setCell_other (ownsRow_setCell_other HRL.out (a := ⟨bp, 0, none⟩) (by simpa [Value.ownBlock] using hg2b) (.int .i64 (W : Int))) (a := ⟨bp, 1, none⟩) (by simpa [Value.ownBlock] using hg2b) (.int .i64 (H : Int))) (a := ⟨bp, 2, none⟩) (by simpa [Value.ownBlock] using hg2b) (.slice (some ⟨g2, 0, none⟩) m2 c2'))
      have HPS2 := hid_of (HP2.out.set_all (.int .i64 (W : Int)) (.int .i64 (H : Int)) (.slice (some ⟨g2, 0, none⟩) m2 c2'))
      have hwb : w.heap.size + 1 ≠ bp := by omega
      have HTS := hid_of (((HT2.out.other (j := 0) (u := .int .i64 (W : Int)) hwb).other (j := 1) (u := .int .i64 (H : Int)) hwb).other (j := 2) (u := .slice (some ⟨g2, 0, none⟩) m2 c2') hwb)
      have hbS : Below w.heap.size w (((w2.setCell ⟨bp, 0, none⟩ (.int .i64 (W : Int))).setCell ⟨bp, 1, none⟩ (.int .i64 (H : Int))).setCell ⟨bp, 2, none⟩ (.slice (some ⟨g2, 0, none⟩) m2 c2')) := ((hbb.setCell (show w.heap.size ≤ bp by omega) _).setCell (show w.heap.size ≤ bp by omega) _).setCell (show w.heap.size ≤ bp by omega) _
      obtain ⟨r0, r1, r2, rf0, rf1, rf2, rlt⟩ := HP2.out
      clear ho2 hb2 HRL hbb hbX HP2 HT2 HPX HTX HRX HUX p0 p1 p2 pf0 pf1 pf2 plt q0 q1 q2 qf0 qf1 qf2 qlt
      have hbp2 := HPS2.out.lt
      rw [HM2.out]
      go_wp2_with fail
      go_roundw
      case rel => exact ⟨k + 1, g2, c2', m2, by omega, by go_num, hg2b, hg2w, hbp2, HPS2, HTS, by rw [HS3.out, HM2.out]; exact HRS, by rw [HS3.out]; exact HCK3, hbS⟩
      case measure => simp [intOf]; omega
    · obtain rfl : k = n := by omega
      rw [List.take_of_length_le (by rw [HN.out]; exact Nat.le_refl _)] at HRP
      obtain ⟨p0, p1, p2, pf0, pf1, pf2, plt⟩ := HP.out
      obtain ⟨q0, q1, q2, qf0, qf1, qf2, qlt⟩ := HT.out
      go_wp2_with fail
      have HRS := hid_of (ownsRow_setCell_other (ownsRow_setCell_other (ownsRow_setCell_other HRP.out (a := ⟨w.heap.size + 1, 0, none⟩) (by simpa [Value.ownBlock] using hgw2) (.int .i64 (W : Int))) (a := ⟨w.heap.size + 1, 1, none⟩) (by simpa [Value.ownBlock] using hgw2) (.int .i64 (H : Int))) (a := ⟨w.heap.size + 1, 2, none⟩) (by simpa [Value.ownBlock] using hgw2) (.slice (some ⟨g, 0, none⟩) m c))
      refine bodyPost_ret (v := .agg #[.int .i64 (W : Int), .int .i64 (H : Int), .slice (some ⟨g, 0, none⟩) m c]) (by simp [results, Tryd.results54, go_sem, q0, q1, q2]) rfl ⟨_, rfl, HRS.out, ?_⟩
      repeat (refine Below.setCell ?_ (by simp) _)
      exact hbr
theorem seen_any (v : Value) (os : List Po) (W H : Nat) (bv ba : Int) (w : World) (hos : os.length ≤ 1000) (hps : ∀ j, j < os.length → (os.getD j po0).ps.length ≤ 100) (hok : ∀ j, j < os.length → (os.getD j po0).fault' = 0) (HR : Hid (RdO w v os))
    (h1 : 1 ≤ W) (h2 : W ≤ 8) (h3 : 1 ≤ H) (h4 : H ≤ 8) (h5 : 0 ≤ bv) (h6 : bv ≤ 255) (h7 : 0 ≤ ba) (h8 : ba ≤ 255) :
    Calls Tryd.prog 54 #[v, .int .i64 (W : Int), .int .i64 (H : Int), pixV bv ba] w fun e w' => ∃ v', e = .returned (picV W H v') ∧ RdP w' v' (seenL W H (bv, ba) os) ∧ Below w.heap.size w w' := by
  refine (seen_own v os W H bv ba w hos hps hok HR h1 h2 h3 h4 h5 h6 h7 h8).mono ?_
  rintro e w' ⟨v', he, ho, hb⟩
  exact ⟨v', he, rdP_own ho, hb⟩
end Go.Proofs.YtjmkfcgnadpbaaaDoor
/- Frames: what lies in memory, a list of them opened. -/
namespace Go.Proofs.YtjmkfcgnadpbaaaDoor
open Go.ChangeShapes Go.WideShapes Go.ChangeAt Go.RowKit Go.Joins Go.Deep

/-- a frame -/
structure Pf where
  W : Int
  H : Int
  ps : List (Int × Int)
  d : Int

@[reducible] def pf0 : Pf := ⟨0, 0, [], 0⟩
instance : Inhabited Pf := ⟨pf0⟩

/-- a list of frames -/
def RdF (w : World) (v : Value) (fs : List Pf) : Prop :=
  ∃ a cap, v = .slice a fs.length cap ∧ fs.length ≤ cap ∧ cap ≤ 9223372036854775807 ∧ (fs ≠ [] → ∃ g off, a = some ⟨g, off, none⟩ ∧ g < w.heap.size ∧
    ∀ j, j < fs.length → ∃ u, w.cell? ⟨g, off + j * 4, none⟩ = some (.int .i64 (fs.getD j pf0).W) ∧ w.cell? ⟨g, off + j * 4 + 1, none⟩ = some (.int .i64 (fs.getD j pf0).H) ∧
      w.cell? ⟨g, off + j * 4 + 2, none⟩ = some u ∧ w.cell? ⟨g, off + j * 4 + 3, none⟩ = some (.int .i64 (fs.getD j pf0).d) ∧ RdP w u (fs.getD j pf0).ps)

theorem RdF.on {w w' : World} {v : Value} {fs : List Pf} (h : RdF w v fs) (hb : Below w.heap.size w w') : RdF w' v fs := by
  obtain ⟨a, cap, hv, hl, hc, hh⟩ := h
  refine ⟨a, cap, hv, hl, hc, fun hne => ?_⟩
  obtain ⟨g, off, ha, hg, hcell⟩ := hh hne
  refine ⟨g, off, ha, Nat.lt_of_lt_of_le hg hb.size, fun j hj => ?_⟩
  obtain ⟨u, h0, h1, h2, h3, hr⟩ := hcell j hj
  refine ⟨u, ?_, ?_, ?_, ?_, hr.on hb⟩
  · rw [hb.cell (p := ⟨g, off + j * 4, none⟩) hg]; exact h0
  · rw [hb.cell (p := ⟨g, off + j * 4 + 1, none⟩) hg]; exact h1
  · rw [hb.cell (p := ⟨g, off + j * 4 + 2, none⟩) hg]; exact h2
  · rw [hb.cell (p := ⟨g, off + j * 4 + 3, none⟩) hg]; exact h3

theorem Tryd.cellsFr : Tryd.prog.cellsOf 56 = 4 := by kernel_rfl
set_option maxRecDepth 100000 in
theorem cells_frame {H : Type} {enc : TypeId × Value → H} {W : World} {cs : List Value} {fuel : Nat} {z : DataW H × List MemPlace} (hl : cs.length = 4)
    (h : DataW.trod enc Tryd.prog W 0 (fun _ => true) true fuel 56 cs = some z) :
    ∃ (pw ph : Int) (u : Value) (ps : List (Int × Int)) (d : Int), cs = [.int .i64 pw, .int .i64 ph, u, .int .i64 d] ∧ RdP W u ps := by
  obtain ⟨xs, n, _, rfl, hl', hlen, hf⟩ := DataW.trod_struct Tryd.underlying56 h
  match cs, hl with
  | [c0, c1, c2, c3], _ =>
    match xs, hlen with
    | [y0, y1], _ =>
      have h3 : DataW.trod enc Tryd.prog W 0 (fun _ => true) true n 49 [c0, c1, c2] = some y0 := by have := hf 0 _ rfl; simpa [Tryd.cellsPic] using this
      have h5 : DataW.trod enc Tryd.prog W 0 (fun _ => true) true n 3 [c3] = some y1 := by have := hf 1 _ rfl; simpa [Tryd.cellsInt] using this
      obtain ⟨z0, z1, z2, m, _, _, p0, p1, p2⟩ := trod_struct3 Tryd.underlying49 h3
      simp only [Tryd.cellsInt] at p0 p1
      have p2' : DataW.trod enc Tryd.prog W 0 (fun _ => true) true m 47 [c2] = some z2 := by simpa [Tryd.cellsSl] using p2
      obtain ⟨ps, hps⟩ := view_pix p2'
      obtain ⟨i3, e3, _, _⟩ := DataW.trod_int Tryd.underlying3 p0
      obtain ⟨i4, e4, _, _⟩ := DataW.trod_int Tryd.underlying3 p1
      obtain ⟨i5, e5, _, _⟩ := DataW.trod_int Tryd.underlying3 h5
      simp at e3 e4 e5
      subst e3 e4 e5
      exact ⟨i3, i4, c2, ps, i5, rfl, hps⟩

/-- a list of frames that is handed in -/
theorem open_frames {H : Type} {enc : TypeId × Value → H} {W : World} {u : Value} {x : DataW H × List MemPlace} {fuel : Nat}
    (hf : DataW.trod enc Tryd.prog W 0 (fun _ => true) true fuel 25 [u] = some x) : ∃ fs, RdF W u fs := by
  rcases open_slice Tryd.underlying25 hf with ⟨hc, _⟩ | ⟨a, len, cap, m, n, D, Pl, hc, hb, hl, hm, hmm, hx, hall⟩
  · simp only [List.cons.injEq, and_true] at hc
    subst hc
    exact ⟨[], none, 0, rfl, by simp, by omega, fun h => absurd rfl h⟩
  · simp only [List.cons.injEq, and_true] at hc
    subst hc
    simp only [if_true] at hmm
    subst hmm
    have each : ∀ i, i < m → ∃ q : Pf × Value, W.cell? (a.add (i * 4)) = some (.int .i64 q.1.W) ∧ W.cell? (a.add (i * 4 + 1)) = some (.int .i64 q.1.H) ∧ W.cell? (a.add (i * 4 + 2)) = some q.2 ∧ W.cell? (a.add (i * 4 + 3)) = some (.int .i64 q.1.d) ∧ RdP W q.2 q.1.ps := by
      intro i hi
      obtain ⟨cs', h1, h2⟩ := hall i hi
      rw [Tryd.cellsFr] at h1
      obtain ⟨_, hlen, hcell⟩ := World.cells?_some h1
      obtain ⟨pw, ph, v, ps, d, rfl, hr⟩ := cells_frame hlen h2
      have e0 := hcell 0 (by omega)
      have e1 := hcell 1 (by omega)
      have e2 := hcell 2 (by omega)
      have e3 := hcell 3 (by omega)
      rw [add_add] at e0 e1 e2 e3
      exact ⟨(⟨pw, ph, ps, d⟩, v), by simpa using e0, by simpa using e1, by simpa using e2, by simpa using e3, hr⟩
    obtain ⟨q, hq⟩ := choose_lt each
    unfold maxLen at hm
    refine ⟨(List.range len).map fun i => (q i).1, some a, m, by simp, by simpa using hl, by omega, fun hne => ?_⟩
    have hpos : 0 < len := by
      rcases Nat.eq_zero_or_pos len with h | h
      · subst h; simp at hne
      · exact h
    obtain ⟨sb, so, spot⟩ := a
    have hspot : spot = none := by simpa [Addr.add] using World.cell?_spot (hq 0 (by omega)).1
    subst hspot
    refine ⟨sb, so, rfl, ?_, fun j hj => ?_⟩
    · have h0 := (hq 0 (by omega)).1
      rcases Nat.lt_or_ge sb W.heap.size with h | h
      · exact h
      · simp [Addr.add, World.cell?, Array.getElem?_eq_none h] at h0
    · simp only [List.length_map, List.length_range] at hj
      have hg : ((List.range len).map fun i => (q i).1).getD j pf0 = (q j).1 := by
        rw [List.getD_eq_getElem?_getD, List.getElem?_map, List.getElem?_range hj]
        simp
      rw [hg]
      obtain ⟨h0, h1, h2, h3, h4⟩ := hq j (by omega)
      rw [add_plain] at h0 h1 h2 h3
      exact ⟨(q j).2, h0, by rw [Nat.add_assoc]; exact h1, by rw [Nat.add_assoc]; exact h2, by rw [Nat.add_assoc]; exact h3, h4⟩

theorem RdF.at {w : World} {a : Option Addr} {n cap : Nat} {fs : List Pf} (h : RdF w (.slice a n cap) fs) {k : Nat} (hk : k < n) {f : Pf} (HF : Hid (fs.getD k pf0 = f)) :
    ∃ g o ua m uc, a = some ⟨g, o, none⟩ ∧ g < w.heap.size ∧ w.cell? ⟨g, o + k * 4, none⟩ = some (.int .i64 f.W) ∧ w.cell? ⟨g, o + k * 4 + 1, none⟩ = some (.int .i64 f.H) ∧
      w.cell? ⟨g, o + k * 4 + 2, none⟩ = some (.slice ua m uc) ∧ w.cell? ⟨g, o + k * 4 + 3, none⟩ = some (.int .i64 f.d) ∧ Hid (RdP w (.slice ua m uc) f.ps) ∧ Hid (f.ps.length = m) := by
  obtain ⟨a', cap', hv, hl, hc, hh⟩ := h
  simp only [Value.slice.injEq] at hv
  obtain ⟨rfl, rfl, rfl⟩ := hv
  obtain ⟨g, o, ha, hg, hcell⟩ := hh (by intro e; rw [e] at hk; simp at hk)
  obtain ⟨u, h0, h1, h2, h3, h4⟩ := hcell k hk
  rw [HF.out] at h0 h1 h3 h4
  have h5 := h4
  obtain ⟨ua, uc, rfl, _⟩ := h5
  exact ⟨g, o, ua, _, uc, ha, hg, h0, h1, h2, h3, h4, (rfl : _ = _)⟩
theorem RdF.shape {w : World} {v : Value} {fs : List Pf} (h : RdF w v fs) : ∃ a cap, v = .slice a fs.length cap ∧ fs.length ≤ cap ∧ cap ≤ 9223372036854775807 := by
  obtain ⟨a, cap, h1, h2, h3, _⟩ := h
  exact ⟨a, cap, h1, h2, h3⟩
end Go.Proofs.YtjmkfcgnadpbaaaDoor
/- A book and its machine, as lists. -/
namespace Go.Proofs.YtjmkfcgnadpbaaaDoor
open Go.RowKit

/-- how many loops more are open behind an op -/
def opn (q : Pq) : Int := if q.kind = 12 then 1 else if q.kind = 13 then -1 else 0
/-- how many are open ahead of the op at k -/
def dep (qs : List Pq) (k : Nat) : Int := ((qs.take k).map opn).sum
theorem dep_zero (qs : List Pq) : dep qs 0 = 0 := by simp [dep]
theorem getD_pq {qs : List Pq} {k : Nat} (h : k < qs.length) : qs.getD k pq0 = qs[k] := by rw [List.getD_eq_getElem?_getD, List.getElem?_eq_getElem h]; rfl
theorem mem_pq {qs : List Pq} {k : Nat} (h : k < qs.length) : qs.getD k pq0 ∈ qs := by rw [getD_pq h]; exact List.getElem_mem h
theorem dep_succ (qs : List Pq) (k : Nat) (h : k < qs.length) : dep qs (k + 1) = dep qs k + opn (qs.getD k pq0) := by
  unfold dep
  rw [List.take_succ_eq_append_getElem h, List.map_append, List.sum_append, getD_pq h]
  simp
/-- Check behind the first i ops, d loops open; n: how many ops there are -/
def bkR (n : Nat) : Nat → Int → List Pq → Nat
  | _, d, [] => if 0 < d then 3 else 0
  | i, d, q :: r => if opC q ≠ 0 then opC q else if decide (q.kind = 1) ≠ decide (i = 0) ∨ decide (q.kind = 16) ≠ decide (i + 1 = n) then 3
      else if d + opn q < 0 then 3 else if 3 < d + opn q then 2 else bkR n (i + 1) (d + opn q) r
/-- Check's number -/
def bkC (qs : List Pq) : Nat :=
  if qs.length < 2 ∨ (qs.getD 0 pq0).kind ≠ 1 ∨ (qs.getD (qs.length - 1) pq0).kind ≠ 16 then 3 else if 60 < qs.length then 2 else bkR qs.length 0 0 qs
/-- a book that may be -/
structure Book (qs : List Pq) : Prop where
  two : 2 ≤ qs.length
  few : qs.length ≤ 60
  ok : ∀ j, j < qs.length → opC (qs.getD j pq0) = 0
  head : ∀ j, j < qs.length → ((qs.getD j pq0).kind = 1 ↔ j = 0)
  last : ∀ j, j < qs.length → ((qs.getD j pq0).kind = 16 ↔ j + 1 = qs.length)
  low : ∀ j, j ≤ qs.length → 0 ≤ dep qs j
  high : ∀ j, j ≤ qs.length → dep qs j ≤ 3
  shut : dep qs qs.length = 0
theorem bkR_zero (qs : List Pq) : ∀ (r : List Pq) (i : Nat), i + r.length = qs.length → qs.drop i = r → 0 ≤ dep qs i → dep qs i ≤ 3 → bkR qs.length i (dep qs i) r = 0 →
    (∀ j, i ≤ j → j < qs.length → opC (qs.getD j pq0) = 0 ∧ ((qs.getD j pq0).kind = 1 ↔ j = 0) ∧ ((qs.getD j pq0).kind = 16 ↔ j + 1 = qs.length)) ∧ (∀ j, i ≤ j → j ≤ qs.length → 0 ≤ dep qs j ∧ dep qs j ≤ 3) ∧ dep qs qs.length ≤ 0 := by
  intro r
  induction r with
  | nil =>
    intro i hi _ h0 h3 h
    simp at hi
    subst hi
    simp only [bkR] at h
    refine ⟨fun j h1 h2 => by omega, fun j h1 h2 => by obtain rfl : j = qs.length := by omega
                                                       exact ⟨h0, h3⟩, ?_⟩
    split at h <;> omega
  | cons q r ih =>
    intro i hi hd h0 h3 h
    simp only [List.length_cons] at hi
    have hlt : i < qs.length := by omega
    have hq : qs.getD i pq0 = q := by
      rw [getD_pq hlt]
      have := List.getElem_cons_drop (i := i) hlt
      rw [hd] at this
      exact (List.cons.inj this).1
    have hr : qs.drop (i + 1) = r := by
      have := List.getElem_cons_drop (i := i) hlt
      rw [hd] at this
      exact (List.cons.inj this).2
    have hs := dep_succ qs i hlt
    rw [hq] at hs
    unfold bkR at h
    split at h
    · rename_i hc; omega
    rename_i hc
    split at h
    · cases h
    rename_i hk
    split at h
    · cases h
    split at h
    · cases h
    rename_i hlo hhi
    rw [← hs] at h hlo hhi
    obtain ⟨a1, a2, a3⟩ := ih (i + 1) (by omega) hr (by omega) (by omega) h
    refine ⟨fun j h1 h2 => ?_, fun j h1 h2 => ?_, a3⟩
    · rcases Nat.eq_or_lt_of_le h1 with rfl | h1
      · rw [hq]
        have hk1 : decide (q.kind = 1) = decide (i = 0) := by
          apply Classical.byContradiction; intro hn; exact hk (.inl hn)
        have hk2 : decide (q.kind = 16) = decide (i + 1 = qs.length) := by
          apply Classical.byContradiction; intro hn; exact hk (.inr hn)
        exact ⟨by omega, by simpa using hk1, by simpa using hk2⟩
      · exact a1 j h1 h2
    · rcases Nat.eq_or_lt_of_le h1 with rfl | h1
      · exact ⟨h0, h3⟩
      · exact a2 j h1 h2
theorem book_of {qs : List Pq} (h : bkC qs = 0) : Book qs := by
  unfold bkC at h
  split at h
  · cases h
  rename_i h1
  split at h
  · cases h
  rename_i h2
  have hd := dep_zero qs
  rw [← hd] at h
  obtain ⟨a1, a2, a3⟩ := bkR_zero qs qs 0 (by simp) rfl (by omega) (by omega) h
  exact ⟨by omega, by omega, fun j hj => (a1 j (by omega) hj).1, fun j hj => (a1 j (by omega) hj).2.1, fun j hj => (a1 j (by omega) hj).2.2, fun j hj => (a2 j (by omega) hj).1, fun j hj => (a2 j (by omega) hj).2, by have := (a2 qs.length (by omega) (by omega)).1; omega⟩

/-- the loop at p ends at j -/
structure Clo (qs : List Pq) (p j : Nat) : Prop where
  lt : p < j
  on : j < qs.length
  loop : (qs.getD p pq0).kind = 12
  next : (qs.getD j pq0).kind = 13
  same : dep qs (j + 1) = dep qs p
  over : ∀ k, p < k → k ≤ j → dep qs p + 1 ≤ dep qs k
theorem Clo.one {qs : List Pq} {p j k : Nat} (h : Clo qs p j) (h2 : Clo qs p k) : j = k := by
  rcases Nat.lt_trichotomy j k with hl | rfl | hl
  · have := h2.over (j + 1) (by have := h.lt; omega) (by omega)
    have := h.same
    omega
  · rfl
  · have := h.over (k + 1) (by have := h2.lt; omega) (by omega)
    have := h2.same
    omega
/-- where the loop at p ends -/
def cloF (qs : List Pq) (p : Nat) : Nat := ((List.range qs.length).find? fun j => decide (p < j) && decide (dep qs (j + 1) = dep qs p)).getD 0
theorem Clo.fn {qs : List Pq} {p j : Nat} (h : Clo qs p j) : cloF qs p = j := by
  unfold cloF
  have : (List.range qs.length).find? (fun j => decide (p < j) && decide (dep qs (j + 1) = dep qs p)) = some j := by
    rw [List.find?_eq_some_iff_getElem]
    refine ⟨by simp [h.lt, h.same], j, by simpa using h.on, by simp, fun k hk => ?_⟩
    simp
    rcases Nat.lt_or_ge p k with hp | hp
    · have := h.over (k + 1) (by omega) (by omega)
      exact .inr (by omega)
    · exact .inl hp
  rw [this]
  rfl

/-- a machine -/
structure Ms where
  pc : Nat
  opn : List (Nat × Nat)
  bv : Int
  ba : Int
  obs : List Po
  kept : List Po
  frs : List Pf
def ms0 : Ms := ⟨0, [], 0, 0, [], [], []⟩
/-- what a wait tells -/
def tellF (qs : List Pq) (s : Ms) (d : Int) : Pf := ⟨(qs.getD 0 pq0).a, (qs.getD 0 pq0).b, seenL (qs.getD 0 pq0).a.toNat (qs.getD 0 pq0).b.toNat (s.bv, s.ba) s.obs, d⟩
/-- the op is done; the machine is left ahead of what comes next -/
def doM (qs : List Pq) (s : Ms) (q : Pq) : Ms ⊕ Nat :=
  if q.kind = 1 then .inl s
  else if q.kind = 10 then .inl { s with bv := q.a, ba := q.b }
  else if q.kind = 11 then if 40 ≤ s.frs.length then .inr 7 else .inl { s with frs := s.frs ++ [tellF qs s q.a] }
  else if q.kind = 12 then if q.a = 0 then .inl { s with pc := cloF qs s.pc } else .inl { s with opn := s.opn ++ [(s.pc, q.a.toNat)] }
  else if q.kind = 13 then if 1 < (s.opn.getD (s.opn.length - 1) (0, 0)).2 then .inl { s with pc := (s.opn.getD (s.opn.length - 1) (0, 0)).1, opn := s.opn.dropLast ++ [((s.opn.getD (s.opn.length - 1) (0, 0)).1, (s.opn.getD (s.opn.length - 1) (0, 0)).2 - 1)] } else .inl { s with opn := s.opn.dropLast }
  else if q.kind = 14 then .inl { s with kept := s.obs }
  else if q.kind = 15 then .inl { s with obs := s.kept }
  else match doO s.obs q with
    | .inl rs => .inl { s with obs := rs }
    | .inr c => .inr c
def doneM (qs : List Pq) (s : Ms) : Prop := (qs.getD s.pc pq0).kind = 16
instance (qs : List Pq) (s : Ms) : Decidable (doneM qs s) := by unfold doneM; infer_instance
def stepM (qs : List Pq) (s : Ms) : Ms ⊕ Nat :=
  if doneM qs s then .inl s else match doM qs s (qs.getD s.pc pq0) with
    | .inl s' => .inl { s' with pc := s'.pc + 1 }
    | .inr c => .inr c
/-- what is played -/
def playM (qs : List Pq) : Nat → Ms → List Pf ⊕ Nat
  | 0, s => if doneM qs s then .inl s.frs else .inr 8
  | f + 1, s => if doneM qs s then .inl s.frs else match stepM qs s with
    | .inl s' => playM qs f s'
    | .inr c => .inr c
/-- what holds of a machine on its way -/
structure Way (qs : List Pq) (s : Ms) : Prop where
  on : s.pc < qs.length
  deep : (s.opn.length : Int) = dep qs s.pc
  inn : ∀ m, m < s.opn.length → (s.opn.getD m (0, 0)).1 < qs.length ∧ (qs.getD (s.opn.getD m (0, 0)).1 pq0).kind = 12 ∧ dep qs (s.opn.getD m (0, 0)).1 = m ∧ 1 ≤ (s.opn.getD m (0, 0)).2 ∧ (s.opn.getD m (0, 0)).2 ≤ 9
  bv : 0 ≤ s.bv ∧ s.bv ≤ 255
  ba : 0 ≤ s.ba ∧ s.ba ≤ 255
  obs : FineO s.obs
  kept : FineO s.kept
  frs : s.frs.length ≤ 40
end Go.Proofs.YtjmkfcgnadpbaaaDoor
/- A book's machine: what holds on its way. -/
namespace Go.Proofs.YtjmkfcgnadpbaaaDoor
open Go.RowKit

theorem opn_cases (q : Pq) : (q.kind = 12 ∧ opn q = 1) ∨ (q.kind = 13 ∧ opn q = -1) ∨ (q.kind ≠ 12 ∧ q.kind ≠ 13 ∧ opn q = 0) := by
  unfold opn
  split
  · exact .inl ⟨by assumption, rfl⟩
  split
  · exact .inr (.inl ⟨by assumption, rfl⟩)
  · exact .inr (.inr ⟨by assumption, by assumption, rfl⟩)
theorem first_low (f : Nat → Int) (p : Nat) (c : Int) : ∀ m, (∃ k, p < k ∧ k ≤ m ∧ f k ≤ c) → ∃ j, p ≤ j ∧ j + 1 ≤ m ∧ f (j + 1) ≤ c ∧ ∀ k, p < k → k ≤ j → c < f k := by
  intro m
  induction m with
  | zero => rintro ⟨k, h1, h2, _⟩; omega
  | succ m ih =>
    rintro ⟨k, h1, h2, h3⟩
    by_cases hk : ∃ k, p < k ∧ k ≤ m ∧ f k ≤ c
    · obtain ⟨j, a1, a2, a3, a4⟩ := ih hk
      exact ⟨j, a1, by omega, a3, a4⟩
    · obtain rfl : k = m + 1 := by
        apply Classical.byContradiction
        intro hn
        exact hk ⟨k, h1, by omega, h3⟩
      refine ⟨m, by omega, by omega, h3, fun k h4 h5 => ?_⟩
      apply Classical.byContradiction
      intro hn
      exact hk ⟨k, h4, h5, by omega⟩
theorem clo_ex {qs : List Pq} (hb : Book qs) {p : Nat} (hp : p < qs.length) (hk : (qs.getD p pq0).kind = 12) : ∃ j, Clo qs p j := by
  have hs := dep_succ qs p hp
  have ho : opn (qs.getD p pq0) = 1 := by unfold opn; rw [if_pos hk]
  have hl : p + 1 ≠ qs.length := fun h => by have := (hb.last p hp).2 h; omega
  obtain ⟨j, a1, a2, a3, a4⟩ := first_low (dep qs) p (dep qs p) qs.length ⟨qs.length, hp, Nat.le_refl _, by rw [hb.shut]; exact hb.low p (by omega)⟩
  have hpj : p < j := by
    rcases Nat.eq_or_lt_of_le a1 with rfl | h
    · omega
    · exact h
  have hj := dep_succ qs j (by omega)
  have h5 := a4 j hpj (Nat.le_refl _)
  rcases opn_cases (qs.getD j pq0) with ⟨k1, k2⟩ | ⟨k1, k2⟩ | ⟨_, _, k2⟩
  · omega
  · exact ⟨j, hpj, by omega, hk, k1, by omega, fun k h1 h2 => by have := a4 k h1 h2; omega⟩
  · omega

theorem fine_nil : FineO [] := ⟨by simp, fun i j _ h => by simp at h⟩
theorem way0 {qs : List Pq} (h : Book qs) : Way qs ms0 :=
  ⟨by have := h.two; show 0 < _; omega, by simp [ms0, dep_zero], fun m hm => by simp [ms0] at hm, by simp [ms0], by simp [ms0], fine_nil, fine_nil, by simp [ms0]⟩
theorem dropLast_getD {α : Type} (l : List α) (d : α) {m : Nat} (h : m < l.length - 1) : l.dropLast.getD m d = l.getD m d := by
  rw [List.getD_eq_getElem?_getD, List.getD_eq_getElem?_getD, List.getElem?_dropLast, if_pos h]
theorem snoc_getD {α : Type} (l : List α) (x d : α) (m : Nat) (h : m < l.length + 1) : (l ++ [x]).getD m d = if m = l.length then x else l.getD m d := by
  rw [List.getD_eq_getElem?_getD, List.getD_eq_getElem?_getD]
  split
  · rename_i h1; subst h1; simp
  · rw [List.getElem?_append_left (by omega)]
theorem op_back (q : Pq) (h : opC q = 0) (hk : q.kind = 10) : (0 ≤ q.a ∧ q.a ≤ 255) ∧ 0 ≤ q.b ∧ q.b ≤ 255 := by
  obtain ⟨_, _, h3, _⟩ := op_shape q h ⟨10, [66, 65, 67, 75], false, 2, 0, 255, false⟩ (by rw [hk]; rfl)
  simp [inB, nums4] at h3
  omega
theorem op_loop (q : Pq) (h : opC q = 0) (hk : q.kind = 12) : 0 ≤ q.a ∧ q.a ≤ 9 := by
  obtain ⟨_, _, h3, _⟩ := op_shape q h ⟨12, [76, 79, 79, 80], false, 1, 0, 9, false⟩ (by rw [hk]; rfl)
  simp [inB, nums4] at h3
  omega
theorem op_head (q : Pq) (h : opC q = 0) (hk : q.kind = 1) : (1 ≤ q.a ∧ q.a ≤ 8) ∧ 1 ≤ q.b ∧ q.b ≤ 8 := by
  obtain ⟨_, _, h3, _⟩ := op_shape q h ⟨1, [72, 69, 65, 68], false, 2, 1, 8, false⟩ (by rw [hk]; rfl)
  simp [inB, nums4] at h3
  omega
/-- an op that is neither the last nor opens or closes leads to the next place -/
theorem way_next {qs : List Pq} {s : Ms} (hb : Book qs) (hw : Way qs s) (hd : ¬ doneM qs s) (h2 : (qs.getD s.pc pq0).kind ≠ 12) (h3 : (qs.getD s.pc pq0).kind ≠ 13) : s.pc + 1 < qs.length ∧ (s.opn.length : Int) = dep qs (s.pc + 1) := by
  have hl : s.pc + 1 ≠ qs.length := fun h => hd ((hb.last s.pc hw.on).2 h)
  refine ⟨by have := hw.on; omega, ?_⟩
  rw [hw.deep, dep_succ qs s.pc hw.on]
  rcases opn_cases (qs.getD s.pc pq0) with ⟨k1, k2⟩ | ⟨k1, k2⟩ | ⟨_, _, k2⟩
  · exact absurd k1 h2
  · exact absurd k1 h3
  · omega
theorem open_pos {qs : List Pq} {s : Ms} (hb : Book qs) (hw : Way qs s) (h3 : (qs.getD s.pc pq0).kind = 13) : 0 < s.opn.length ∧ s.opn.length ≤ 3 := by
  have h1 := dep_succ qs s.pc hw.on
  have h2 := hb.low (s.pc + 1) (by have := hw.on; omega)
  have h4 := hb.high s.pc (by have := hw.on; omega)
  have h5 := hw.deep
  unfold opn at h1
  rw [if_neg (by omega), if_pos h3] at h1
  omega
theorem step_way {qs : List Pq} {s s' : Ms} (hb : Book qs) (hw : Way qs s) (hd : ¬ doneM qs s) (h : doM qs s (qs.getD s.pc pq0) = .inl s') : Way qs { s' with pc := s'.pc + 1 } := by
  obtain ⟨q, hq⟩ : ∃ q, qs.getD s.pc pq0 = q := ⟨_, rfl⟩
  have hok := hb.ok s.pc hw.on
  have hn := way_next hb hw hd
  have hl : s.pc + 1 ≠ qs.length := fun h => hd ((hb.last s.pc hw.on).2 h)
  have hon := hw.on
  have hsu := dep_succ qs s.pc hw.on
  rw [hq] at h hok hn hsu
  unfold doM at h
  split at h
  · rename_i hk
    obtain rfl := Sum.inl.inj h
    obtain ⟨a1, a2⟩ := hn (by omega) (by omega)
    exact ⟨a1, a2, hw.inn, hw.bv, hw.ba, hw.obs, hw.kept, hw.frs⟩
  split at h
  · rename_i hk
    obtain rfl := Sum.inl.inj h
    obtain ⟨a1, a2⟩ := hn (by omega) (by omega)
    exact ⟨a1, a2, hw.inn, (op_back q hok hk).1, (op_back q hok hk).2, hw.obs, hw.kept, hw.frs⟩
  split at h
  · rename_i hk
    split at h
    · cases h
    obtain rfl := Sum.inl.inj h
    obtain ⟨a1, a2⟩ := hn (by omega) (by omega)
    exact ⟨a1, a2, hw.inn, hw.bv, hw.ba, hw.obs, hw.kept, by simp only [List.length_append, List.length_singleton]; omega⟩
  split at h
  · rename_i hk
    have ho : opn q = 1 := by unfold opn; rw [if_pos hk]
    split at h
    · obtain rfl := Sum.inl.inj h
      obtain ⟨j, hj⟩ := clo_ex hb hon (by rw [hq]; exact hk)
      have he := hj.fn
      have h5 : j + 1 ≠ qs.length := fun h => by have := (hb.last j hj.on).2 h; have := hj.next; omega
      exact ⟨by simp only [he]; have := hj.on; omega, by simp only [he]; rw [hj.same, hw.deep], hw.inn, hw.bv, hw.ba, hw.obs, hw.kept, hw.frs⟩
    · rename_i ha
      obtain rfl := Sum.inl.inj h
      obtain ⟨b1, b2⟩ := op_loop q hok hk
      refine ⟨by simp only; omega, by simp only [List.length_append, List.length_singleton]; have := hw.deep; omega, fun m hm => ?_, hw.bv, hw.ba, hw.obs, hw.kept, hw.frs⟩
      simp only [List.length_append, List.length_singleton] at hm
      simp only
      rw [snoc_getD _ _ _ m hm]
      split
      · rename_i hm2
        subst hm2
        have := hw.deep
        exact ⟨hon, by rw [hq]; exact hk, by show dep qs s.pc = _; omega, by show 1 ≤ q.a.toNat; omega, by show q.a.toNat ≤ 9; omega⟩
      · exact hw.inn m (by omega)
  split at h
  · rename_i hk
    have ho : opn q = -1 := by unfold opn; rw [if_neg (by omega), if_pos hk]
    obtain ⟨p1, p2⟩ := open_pos hb hw (by rw [hq]; exact hk)
    obtain ⟨c1, c2, c3, c4, c5⟩ := hw.inn (s.opn.length - 1) (by omega)
    split at h
    · rename_i hgt
      obtain rfl := Sum.inl.inj h
      have h5 : (s.opn.getD (s.opn.length - 1) (0, 0)).1 + 1 ≠ qs.length := fun h => by have := (hb.last _ c1).2 h; omega
      have h6 := dep_succ qs _ c1
      have h7 : opn (qs.getD (s.opn.getD (s.opn.length - 1) (0, 0)).1 pq0) = 1 := by unfold opn; rw [if_pos c2]
      refine ⟨by simp only; omega, by simp only [List.length_append, List.length_singleton, List.length_dropLast]; omega, fun m hm => ?_, hw.bv, hw.ba, hw.obs, hw.kept, hw.frs⟩
      simp only [List.length_append, List.length_singleton, List.length_dropLast] at hm
      simp only
      rw [snoc_getD _ _ _ m (by rw [List.length_dropLast]; omega), List.length_dropLast]
      split
      · rename_i hm2
        subst hm2
        exact ⟨c1, c2, c3, by simp only; omega, by simp only; omega⟩
      · rw [dropLast_getD _ _ (by omega)]
        exact hw.inn m (by omega)
    · obtain rfl := Sum.inl.inj h
      refine ⟨by simp only; omega, by simp only [List.length_dropLast]; have := hw.deep; omega, fun m hm => ?_, hw.bv, hw.ba, hw.obs, hw.kept, hw.frs⟩
      simp only [List.length_dropLast] at hm
      simp only
      rw [dropLast_getD _ _ hm]
      exact hw.inn m (by omega)
  split at h
  · rename_i hk
    obtain rfl := Sum.inl.inj h
    obtain ⟨a1, a2⟩ := hn (by omega) (by omega)
    exact ⟨a1, a2, hw.inn, hw.bv, hw.ba, hw.obs, hw.obs, hw.frs⟩
  split at h
  · rename_i hk
    obtain rfl := Sum.inl.inj h
    obtain ⟨a1, a2⟩ := hn (by omega) (by omega)
    exact ⟨a1, a2, hw.inn, hw.bv, hw.ba, hw.kept, hw.kept, hw.frs⟩
  split at h
  · rename_i rs hr
    obtain rfl := Sum.inl.inj h
    obtain ⟨a1, a2⟩ := hn (by omega) (by omega)
    exact ⟨a1, a2, hw.inn, hw.bv, hw.ba, do_fine hw.obs hok hr, hw.kept, hw.frs⟩
  · cases h
end Go.Proofs.YtjmkfcgnadpbaaaDoor
/- Rows of frames of one's own. -/
namespace Go.Proofs.YtjmkfcgnadpbaaaDoor
open Go.RowKit

theorem Tryd.infoFr : (Tryd.prog.info? 56).map (fun i => (i.zero, i.size, i.bytes)) = some (some (.agg #[.int .i64 0, .int .i64 0, .slice none 0 0, .int .i64 0]), 4, 48) := by kernel_rfl

def frCells : List (Pf × Value) → List Value
  | [] => []
  | (f, u) :: r => .int .i64 f.W :: .int .i64 f.H :: u :: .int .i64 f.d :: frCells r
theorem frCells_app (a b : List (Pf × Value)) : frCells (a ++ b) = frCells a ++ frCells b := by
  induction a with
  | nil => rfl
  | cons p a ih => obtain ⟨f, u⟩ := p; simp [frCells, ih]
theorem frCells_length : ∀ a : List (Pf × Value), (frCells a).length = a.length * 4
  | [] => rfl
  | (f, u) :: r => by simp [frCells, frCells_length r]; omega
@[reducible] def fq0 : Pf × Value := (pf0, .slice none 0 0)
theorem frCells_at : ∀ (a : List (Pf × Value)) (j : Nat), j < a.length → (frCells a)[j * 4]? = some (.int .i64 (a.getD j fq0).1.W) ∧ (frCells a)[j * 4 + 1]? = some (.int .i64 (a.getD j fq0).1.H) ∧
    (frCells a)[j * 4 + 2]? = some (a.getD j fq0).2 ∧ (frCells a)[j * 4 + 3]? = some (.int .i64 (a.getD j fq0).1.d)
  | (f, u) :: r, 0, _ => by simp [frCells]
  | (f, u) :: r, j + 1, h => by
    have := frCells_at r j (by simpa using h)
    have e : ∀ x, (j + 1) * 4 + x = (j * 4 + x) + 4 := by intro x; omega
    refine ⟨?_, ?_, ?_, ?_⟩
    · have := this.1; rw [show (j + 1) * 4 = j * 4 + 4 by omega]; simpa [frCells] using this
    · have := this.2.1; rw [e]; simpa [frCells] using this
    · have := this.2.2.1; rw [e]; simpa [frCells] using this
    · have := this.2.2.2; rw [e]; simpa [frCells] using this
/-- a row of frames of one's own, each with a row of pixels of its own -/
def OwnFr (w : World) (B : Nat) (v : Value) (qs : List (Pf × Value)) : Prop :=
  w.ownsRow B 56 4 v qs.length (frCells qs) ∧ ∀ q ∈ qs, w.ownsRow B 42 2 q.2 q.1.ps.length (pixCells q.1.ps)

theorem OwnFr.on {w w' : World} {B : Nat} {v : Value} {qs : List (Pf × Value)} (h : OwnFr w B v qs) (hb : Below w.heap.size w w') : OwnFr w' B v qs :=
  ⟨own_on2 h.1 hb, fun q hq => own_on2 (h.2 q hq) hb⟩

theorem OwnFr.rd {w : World} {B : Nat} {v : Value} {qs : List (Pf × Value)} (h : OwnFr w B v qs) : RdF w v (qs.map Prod.fst) := by
  rcases h.1.2 with ⟨rfl, h0⟩ | ⟨g, cap, cur, rfl, hb, hg, hn, hm, hs, ht⟩
  · have : qs = [] := List.length_eq_zero_iff.1 h0
    subst this
    exact ⟨none, 0, rfl, by simp, by omega, fun h => absurd rfl h⟩
  · unfold maxLen at hm
    refine ⟨some ⟨g, 0, none⟩, cap, by simp, by simpa using hn, by omega, fun hne => ⟨g, 0, rfl, ?_, fun j hj => ?_⟩⟩
    · rcases Nat.lt_or_ge g w.heap.size with h1 | h1
      · exact h1
      · rw [Array.getElem?_eq_none h1] at hg; cases hg
    · rw [List.length_map] at hj
      obtain ⟨c0, c1, c2, c3⟩ := frCells_at qs j hj
      have e : (qs.map Prod.fst).getD j pf0 = (qs.getD j fq0).1 := by
        simp [List.getD_eq_getElem?_getD, List.getElem?_eq_getElem hj]
      have hmem : qs.getD j fq0 ∈ qs := by
        rw [List.getD_eq_getElem?_getD, List.getElem?_eq_getElem hj]
        simp
      rw [e]
      have hc := fun x (hx : x < 4) => h.1.cellAt (j * 4 + x) (by omega)
      refine ⟨(qs.getD j fq0).2, ?_, ?_, ?_, ?_, rdP_own (h.2 _ hmem)⟩
      · have := hc 0 (by omega); rw [Nat.add_zero] at this; rw [Nat.zero_add, this]; exact c0
      · rw [Nat.zero_add, hc 1 (by omega)]; exact c1
      · rw [Nat.zero_add, hc 2 (by omega)]; exact c2
      · rw [Nat.zero_add, hc 3 (by omega)]; exact c3

theorem OwnFr.app {w w' : World} {B : Nat} {v v' : Value} {qs : List (Pf × Value)} (h : OwnFr w B v qs) {f : Pf} {u : Value} (hu : w.ownsRow B 42 2 u f.ps.length (pixCells f.ps))
    (h1 : w'.ownsRow B 56 4 v' (qs.length + 1) (frCells qs ++ [.int .i64 f.W, .int .i64 f.H, u, .int .i64 f.d])) (h2 : w.grownBy w' v.ownBlock) : OwnFr w' B v' (qs ++ [(f, u)]) := by
  refine ⟨?_, fun q hq => ?_⟩
  · rw [frCells_app, List.length_append]
    exact h1
  · rcases List.mem_append.1 hq with hq | hq
    · exact (h.2 q hq).kept h2 (apartO (h.2 q hq) h.1 (by decide))
    · simp at hq
      subst hq
      exact hu.kept h2 (apartO hu h.1 (by decide))
end Go.Proofs.YtjmkfcgnadpbaaaDoor
/- A machine, as it lies in memory. -/
namespace Go.Proofs.YtjmkfcgnadpbaaaDoor
open Go.RowKit Go.Maps

/-- all blocks stay but those of some types -/
structure Only (Ts : List TypeId) (w w' : World) : Prop where
  size : w.heap.size ≤ w'.heap.size
  keep : ∀ (g : Nat) (o : Obj), w.heap[g]? = some o → (∀ cur e fz, o = Obj.cells cur e fz → e ∉ Ts) → w'.heap[g]? = some o
theorem Only.refl (Ts : List TypeId) (w : World) : Only Ts w w := ⟨Nat.le_refl _, fun _ _ h _ => h⟩
theorem Only.trans {Ts : List TypeId} {a b c : World} (h : Only Ts a b) (k : Only Ts b c) : Only Ts a c := ⟨Nat.le_trans h.size k.size, fun g o h1 h2 => k.keep g o (h.keep g o h1 h2) h2⟩
theorem Only.mono {Ts Us : List TypeId} {a b : World} (h : Only Ts a b) (hs : ∀ t ∈ Ts, t ∈ Us) : Only Us a b := ⟨h.size, fun g o h1 h2 => h.keep g o h1 fun cur e fz he hm => h2 cur e fz he (hs e hm)⟩
theorem lt_of_some {w : World} {g : Nat} {o : Obj} (h : w.heap[g]? = some o) : g < w.heap.size := by
  rcases Nat.lt_or_ge g w.heap.size with h1 | h1
  · exact h1
  · rw [Array.getElem?_eq_none h1] at h; cases h
theorem Only.below {w w' : World} (h : Below w.heap.size w w') (Ts : List TypeId) : Only Ts w w' := ⟨h.size, fun g o h1 _ => by rw [h.block g (lt_of_some h1)]; exact h1⟩
theorem Only.grown {w w' : World} {g : Nat} {cur : Array Value} {e : TypeId} {fz : Nat × Nat} (h : w.grownBy w' (some g)) (hg : w.heap[g]? = some (.cells cur e fz)) : Only [e] w w' :=
  ⟨h.size, fun k o h1 h2 => by
    have hne : k ≠ g := fun he => by
      subst he
      rw [hg] at h1
      obtain rfl := Option.some.inj h1
      exact h2 cur e fz rfl (by simp)
    rw [h.block k (lt_of_some h1) (by simpa using hne)]
    exact h1⟩
theorem Only.grown0 {w w' : World} (h : w.grownBy w' none) (Ts : List TypeId) : Only Ts w w' :=
  ⟨h.size, fun k o h1 _ => by rw [h.block k (lt_of_some h1) (by simp)]; exact h1⟩
theorem own_only {Ts : List TypeId} {w w' : World} {B : Nat} {e : TypeId} {s : Nat} {v : Value} {n : Nat} {xs : List Value} (h : w.ownsRow B e s v n xs) (ho : Only Ts w w') (he : e ∉ Ts) : w'.ownsRow B e s v n xs := by
  refine ⟨h.1, ?_⟩
  rcases h.2 with h | ⟨g, cap, cur, h1, h2, h3, h4⟩
  · exact .inl h
  · exact .inr ⟨g, cap, cur, h1, h2, ho.keep g _ h3 (fun cur' e' fz he' hm => by simp only [Obj.cells.injEq] at he'; exact he (he'.2.1 ▸ hm)), h4⟩
theorem OwnOb.only {Ts : List TypeId} {w w' : World} {B : Nat} {v : Value} {qs : List (Po × Value)} (h : OwnOb w B v qs) (ho : Only Ts w w') (h1 : 80 ∉ Ts) (h2 : 42 ∉ Ts) : OwnOb w' B v qs :=
  ⟨own_only h.1 ho h1, fun q hq => own_only (h.2 q hq) ho h2⟩
theorem OwnQ.only {Ts : List TypeId} {w w' : World} {B : Nat} {v : Value} {qs : List (Pq × Value)} (h : OwnQ w B v qs) (ho : Only Ts w w') (h1 : 51 ∉ Ts) (h2 : 42 ∉ Ts) : OwnQ w' B v qs :=
  ⟨own_only h.1 ho h1, fun q hq => own_only (h.2 q hq) ho h2⟩
theorem OwnFr.only {Ts : List TypeId} {w w' : World} {B : Nat} {v : Value} {qs : List (Pf × Value)} (h : OwnFr w B v qs) (ho : Only Ts w w') (h1 : 56 ∉ Ts) (h2 : 42 ∉ Ts) : OwnFr w' B v qs :=
  ⟨own_only h.1 ho h1, fun q hq => own_only (h.2 q hq) ho h2⟩
theorem map_only {Ts : List TypeId} {w w' : World} {k : TypeId} {R : Value → Option (DataW Unit × List MemPlace)} {b n : Nat} {D : DataW Unit} (h : w.ownsMap Tryd.prog k R b n D) (ho : Only Ts w w') : w'.ownsMap Tryd.prog k R b n D := by
  obtain ⟨es, clock, h1, h2⟩ := h
  exact ⟨es, clock, ho.keep b _ h1 (fun cur e fz he => by cases he), h2⟩

/-- the types of what a machine writes -/
@[reducible] def MT : List TypeId := [62, 108, 56]
def rndCells : List (Nat × Nat) → List Value
  | [] => []
  | (p, l) :: r => .int .i64 (p : Int) :: .int .i64 (l : Int) :: rndCells r
theorem rndCells_app (a b : List (Nat × Nat)) : rndCells (a ++ b) = rndCells a ++ rndCells b := by
  induction a with
  | nil => rfl
  | cons p a ih => obtain ⟨f, u⟩ := p; simp [rndCells, ih]
theorem rndCells_length : ∀ a : List (Nat × Nat), (rndCells a).length = a.length * 2
  | [] => rfl
  | (f, u) :: r => by simp [rndCells, rndCells_length r]; omega
theorem rndCells_at : ∀ (a : List (Nat × Nat)) (j : Nat), j < a.length → (rndCells a)[j * 2]? = some (.int .i64 ((a.getD j (0, 0)).1 : Int)) ∧ (rndCells a)[j * 2 + 1]? = some (.int .i64 ((a.getD j (0, 0)).2 : Int))
  | (f, u) :: r, 0, _ => by simp [rndCells]
  | (f, u) :: r, j + 1, h => by
    have := rndCells_at r j (by simpa using h)
    refine ⟨?_, ?_⟩
    · have := this.1; rw [show (j + 1) * 2 = j * 2 + 2 by omega]; simpa [rndCells] using this
    · have := this.2; rw [show (j + 1) * 2 + 1 = (j * 2 + 1) + 2 by omega]; simpa [rndCells] using this
theorem rndCells_last (a : List (Nat × Nat)) (l : Nat) (h : 0 < a.length) : (rndCells a).set ((a.length - 1) * 2 + 1) (.int .i64 (l : Int)) = rndCells (a.dropLast ++ [((a.getD (a.length - 1) (0, 0)).1, l)]) := by
  induction a with
  | nil => simp at h
  | cons p r ih =>
    obtain ⟨f, u⟩ := p
    cases r with
    | nil => simp [rndCells]
    | cons p2 r2 =>
      have := ih (by simp)
      simp only [List.length_cons, Nat.add_sub_cancel] at this ⊢
      rw [show (r2.length + 1) * 2 + 1 = (r2.length * 2 + 1) + 2 by omega]
      simp only [rndCells, List.set_cons_succ, List.dropLast_cons_cons, List.cons_append]
      have e : ((f, u) :: p2 :: r2).getD (r2.length + 1) (0, 0) = (p2 :: r2).getD r2.length (0, 0) := rfl
      rw [e, ← this]
      obtain ⟨f2, u2⟩ := p2
      simp [rndCells]
theorem rndCells_drop (a : List (Nat × Nat)) : (rndCells a).take ((a.length - 1) * 2) = rndCells a.dropLast := by
  induction a with
  | nil => rfl
  | cons p r ih =>
    obtain ⟨f, u⟩ := p
    cases r with
    | nil => simp [rndCells]
    | cons p2 r2 =>
      simp only [List.length_cons, Nat.add_sub_cancel] at ih ⊢
      rw [show (r2.length + 1) * 2 = (r2.length * 2) + 1 + 1 by omega]
      simp only [rndCells, List.dropLast_cons_cons, List.take_succ_cons]
      obtain ⟨f2, u2⟩ := p2
      rw [← ih]
      simp [rndCells]

/-- what a machine's fields lead to -/
structure MacR (w : World) (B : Nat) (vo : Value) (bm : Nat) (vr vb vk vf : Value) (qs : List Pq) (op : List (Nat × Nat)) (ob kp : List Po) (fr : List Pf) : Prop where
  ops : ∃ qv, OwnQ w B vo qv ∧ qv.map Prod.fst = qs
  mpl : B ≤ bm
  mp : ∃ D, w.ownsMap Tryd.prog 3 (plainElem Tryd.prog 3) bm 100 D ∧ ∀ p j, Clo qs p j → D.atKey (.int .i64 (p : Int)) (.lit (.int .i64 0)) = (.lit (.int .i64 (j : Int)) : DataW Unit)
  rnd : w.ownsRow B 108 2 vr op.length (rndCells op)
  obs : ∃ ov, OwnOb w B vb ov ∧ ov.map Prod.fst = ob
  kep : ∃ kv, OwnOb w B vk kv ∧ kv.map Prod.fst = kp
  frs : ∃ fv, OwnFr w B vf fv ∧ fv.map Prod.fst = fr
/-- all blocks stay but those of a list; what is written from then on lies in it or is new -/
structure Foot (F F' : List Nat) (w w' : World) : Prop where
  os : w'.os = w.os
  tape : w'.tape = w.tape
  output : w'.output = w.output
  size : w.heap.size ≤ w'.heap.size
  block : ∀ k, k < w.heap.size → k ∉ F → w'.heap[k]? = w.heap[k]?
  new : ∀ g ∈ F', g ∈ F ∨ (w.heap.size ≤ g ∧ g < w'.heap.size)
theorem Foot.refl (F : List Nat) (w : World) : Foot F F w w := ⟨rfl, rfl, rfl, Nat.le_refl _, fun _ _ _ => rfl, fun _ h => .inl h⟩
theorem Foot.trans {F F1 F2 : List Nat} {a b c : World} (h : Foot F F1 a b) (k : Foot F1 F2 b c) : Foot F F2 a c :=
  ⟨k.os.trans h.os, k.tape.trans h.tape, k.output.trans h.output, Nat.le_trans h.size k.size,
    fun i hi hn => (k.block i (Nat.lt_of_lt_of_le hi h.size) (fun hm => by
      rcases h.new i hm with h1 | h1
      · exact hn h1
      · omega)).trans (h.block i hi hn),
    fun g hg => by
      rcases k.new g hg with h1 | ⟨h1, h2⟩
      · rcases h.new g h1 with h3 | ⟨h3, h4⟩
        · exact .inl h3
        · exact .inr ⟨h3, Nat.lt_of_lt_of_le h4 k.size⟩
      · exact .inr ⟨Nat.le_trans h.size h1, h2⟩⟩
theorem Foot.below {w w' : World} (h : Below w.heap.size w w') (F : List Nat) : Foot F F w w' :=
  ⟨h.os, h.tape, h.output, h.size, fun k hk _ => h.block k hk, fun _ h => .inl h⟩
theorem Foot.grown {F : List Nat} {w w' : World} {row : Option Nat} (h : w.grownBy w' row) (hr : ∀ g, row = some g → g ∈ F) : Foot F F w w' :=
  ⟨h.os, h.tape, h.output, h.size, fun k hk hn => h.block k hk (fun e => hn (hr k e.symm)), fun _ h => .inl h⟩
theorem Foot.belowB {F F' : List Nat} {w w' : World} {B : Nat} (h : Foot F F' w w') (hF : ∀ g ∈ F, B ≤ g) (hB : B ≤ w.heap.size) : Below B w w' :=
  ⟨h.os, h.tape, h.output, h.size, fun k hk => h.block k (by omega) (fun hm => by have := hF k hm; omega)⟩
/-- blocks that are none of those stay -/
theorem Foot.cell {F F' : List Nat} {w w' : World} (h : Foot F F' w w') {g o : Nat} (hg : g < w.heap.size) (hn : g ∉ F) : w'.cell? ⟨g, o, none⟩ = w.cell? ⟨g, o, none⟩ :=
  World.cell?_of_block (h.block g hg hn)
theorem Foot.lt {F F' : List Nat} {w w' : World} (h : Foot F F' w w') (hF : ∀ g ∈ F, g < w.heap.size) : ∀ g ∈ F', g < w'.heap.size := by
  intro g hg
  rcases h.new g hg with h1 | h1
  · exact Nat.lt_of_lt_of_le (hF g h1) h.size
  · exact h1.2
theorem Foot.cons {F F' : List Nat} {w w' : World} (h : Foot F F' w w') (g : Nat) (hg : g ∈ F ∨ (w.heap.size ≤ g ∧ g < w'.heap.size)) : Foot F (g :: F') w w' :=
  ⟨h.os, h.tape, h.output, h.size, h.block, fun x hx => by
    rcases List.mem_cons.1 hx with rfl | hx
    · exact hg
    · exact h.new x hx⟩
/-- what a machine may write -/
structure MacF (B b : Nat) (vr vf : Value) (F : List Nat) : Prop where
  self : b ∈ F
  rnd : ∀ g, vr.ownBlock = some g → g ∈ F
  frs : ∀ g, vf.ownBlock = some g → g ∈ F
  low : ∀ g ∈ F, B ≤ g
/-- a machine in block b -/
def Mac (w : World) (B b : Nat) (F : List Nat) (qs : List Pq) (s : Ms) : Prop :=
  ∃ vo bm vr vb vk vf, w.ownsRow B 62 9 (.slice (some ⟨b, 0, none⟩) 1 1) 1 [vo, .map (some bm), .int .i64 (s.pc : Int), vr, .int .i64 s.bv, .int .i64 s.ba, vb, vk, vf] ∧ MacR w B vo bm vr vb vk vf qs s.opn s.obs s.kept s.frs ∧ MacF B b vr vf F
theorem MacR.on {w w' : World} {B : Nat} {vo : Value} {bm : Nat} {vr vb vk vf : Value} {qs : List Pq} {op : List (Nat × Nat)} {ob kp : List Po} {fr : List Pf} (h : MacR w B vo bm vr vb vk vf qs op ob kp fr) (hb : Below w.heap.size w w') : MacR w' B vo bm vr vb vk vf qs op ob kp fr := by
  obtain ⟨⟨qv, a1, a2⟩, b1, ⟨D, c1, c2⟩, d1, ⟨ov, e1, e2⟩, ⟨kv, f1, f2⟩, ⟨fv, g1, g2⟩⟩ := h
  exact ⟨⟨qv, a1.on hb, a2⟩, b1, ⟨D, map_only c1 (Only.below hb []), c2⟩, own_on2 d1 hb, ⟨ov, e1.on hb, e2⟩, ⟨kv, f1.on hb, f2⟩, ⟨fv, g1.on hb, g2⟩⟩
theorem MacR.only {w w' : World} {B : Nat} {vo : Value} {bm : Nat} {vr vb vk vf : Value} {qs : List Pq} {op : List (Nat × Nat)} {ob kp : List Po} {fr : List Pf} (h : MacR w B vo bm vr vb vk vf qs op ob kp fr) (ho : Only [62] w w') : MacR w' B vo bm vr vb vk vf qs op ob kp fr := by
  obtain ⟨⟨qv, a1, a2⟩, b1, ⟨D, c1, c2⟩, d1, ⟨ov, e1, e2⟩, ⟨kv, f1, f2⟩, ⟨fv, g1, g2⟩⟩ := h
  exact ⟨⟨qv, a1.only ho (by decide) (by decide), a2⟩, b1, ⟨D, map_only c1 ho, c2⟩, own_only d1 ho (by decide), ⟨ov, e1.only ho (by decide) (by decide), e2⟩, ⟨kv, f1.only ho (by decide) (by decide), f2⟩, ⟨fv, g1.only ho (by decide) (by decide), g2⟩⟩
theorem Mac.on {w w' : World} {B b : Nat} {F : List Nat} {qs : List Pq} {s : Ms} (h : Mac w B b F qs s) (hb : Below w.heap.size w w') : Mac w' B b F qs s := by
  obtain ⟨vo, bm, vr, vb, vk, vf, h1, h2, h3⟩ := h
  exact ⟨vo, bm, vr, vb, vk, vf, own_on2 h1 hb, h2.on hb, h3⟩
theorem Mac.low {w : World} {B b : Nat} {F : List Nat} {qs : List Pq} {s : Ms} (h : Mac w B b F qs s) : ∀ g ∈ F, B ≤ g := by
  obtain ⟨vo, bm, vr, vb, vk, vf, h1, h2, h3⟩ := h
  exact h3.low
/-- a machine's cells -/
theorem mac_nine {w : World} {B b : Nat} {x0 x1 x2 x3 x4 x5 x6 x7 x8 : Value} (h : w.ownsRow B 62 9 (.slice (some ⟨b, 0, none⟩) 1 1) 1 [x0, x1, x2, x3, x4, x5, x6, x7, x8]) : Nine w b x0 x1 x2 x3 x4 x5 x6 x7 x8 ∧ B ≤ b := by
  have hc := fun k (hk : k < 9) => h.cellAt k (by omega)
  rcases h.2 with ⟨h0, _⟩ | ⟨g, cap, cur, hv, hB, hg, _, _, hs, ht⟩
  · simp at h0
  · simp only [Value.slice.injEq, Option.some.injEq, Addr.mk.injEq, and_true, true_and] at hv
    obtain ⟨rfl, rfl⟩ := hv
    have hf : ∀ k, w.frozen? ⟨b, k, none⟩ = false := fun k => by simp [World.frozen?, hg]
    exact ⟨⟨hc 0 (by omega), hc 1 (by omega), hc 2 (by omega), hc 3 (by omega), hc 4 (by omega), hc 5 (by omega), hc 6 (by omega), hc 7 (by omega), hc 8 (by omega), hf 0, hf 1, hf 2, hf 3, hf 4, hf 5, hf 6, hf 7, hf 8, lt_of_some hg⟩, hB⟩
theorem mac_typ {w : World} {B b n cap s : Nat} {T : TypeId} {xs : List Value} (h : w.ownsRow B T s (.slice (some ⟨b, 0, none⟩) n cap) n xs) : ∃ cur, w.heap[b]? = some (.cells cur T (0, 0)) := by
  rcases h.2 with ⟨h0, _⟩ | ⟨g, cap', cur, hv, hB, hg, _⟩
  · simp at h0
  · simp only [Value.slice.injEq, Option.some.injEq, Addr.mk.injEq, and_true, true_and] at hv
    obtain ⟨rfl, _⟩ := hv
    exact ⟨cur, hg⟩
/-- one of a machine's cells is written -/
theorem mac_set {w : World} {B b : Nat} {xs : List Value} (h : w.ownsRow B 62 9 (.slice (some ⟨b, 0, none⟩) 1 1) 1 xs) (k : Nat) (v : Value) :
    (w.setCell ⟨b, k, none⟩ v).ownsRow B 62 9 (.slice (some ⟨b, 0, none⟩) 1 1) 1 (xs.set k v) ∧ Only [62] w (w.setCell ⟨b, k, none⟩ v) ∧ ∀ F, b ∈ F → Foot F F w (w.setCell ⟨b, k, none⟩ v) := by
  obtain ⟨h1, h2⟩ := h.stored k v
  obtain ⟨cur, hg⟩ := mac_typ h
  exact ⟨h1, Only.grown (by simpa [Value.ownBlock] using h2) hg, fun F hF => Foot.grown h2 (fun g hg => by simp at hg; subst hg; exact hF)⟩
/-- what a step answers, and what it leaves -/
def numM : Ms ⊕ Nat → Nat
  | .inl _ => 0
  | .inr c => c
def nxtM (s : Ms) : Ms ⊕ Nat → Ms
  | .inl s' => s'
  | .inr _ => s
def MacP (B b : Nat) (F : List Nat) (qs : List Pq) (s : Ms) (r : Ms ⊕ Nat) (w : World) (e : Ending) (w' : World) : Prop :=
  ∃ F', e = .returned (errV (numM r)) ∧ Mac w' B b F' qs (nxtM s r) ∧ Foot F F' w w'
end Go.Proofs.YtjmkfcgnadpbaaaDoor
/- Walks of a machine: Done, At. -/
namespace Go.Proofs.YtjmkfcgnadpbaaaDoor
open Go.RowKit Go.Maps

set_option maxHeartbeats 8000000 in
set_option maxRecDepth 100000 in
theorem mdone_any (B b : Nat) (F : List Nat) (qs : List Pq) (st : Ms) (w : World) (HM : Hid (Mac w B b F qs st)) (hpc : st.pc < qs.length) (t : Bool) (HT : Hid (decide ((qs.getD st.pc pq0).kind = 16) = t)) :
    Calls Tryd.prog 15 #[.pointer (some ⟨b, 0, none⟩)] w fun e w' => e = .returned (.bool t) ∧ Below w.heap.size w w' := by
  obtain ⟨vo, bm, vr, vb, vk, vf, hm1, hm2, hm3⟩ := HM.out
  obtain ⟨N, hB⟩ := mac_nine hm1
  obtain ⟨qv, hq1, hq2⟩ := hm2.ops
  have HRQ : Hid (RdQ w vo qs) := by unfold Hid; rw [← hq2]; exact hq1.rd
  obtain ⟨n, HN⟩ : ∃ n, Hid (qs.length = n) := ⟨_, (rfl : _ = _)⟩
  obtain ⟨oa, oc, hvo, hol, hoc⟩ := HRQ.out.shape
  rw [HN.out] at hvo hol
  subst hvo
  obtain ⟨q, HX⟩ : ∃ q, Hid (qs.getD st.pc pq0 = q) := ⟨_, (rfl : _ = _)⟩
  rw [HN.out] at hpc
  rw [HX.out] at HT
  obtain ⟨pc, HPC⟩ : ∃ pc, Hid (st.pc = pc) := ⟨_, (rfl : _ = _)⟩
  rw [HPC.out] at hpc HX N
  obtain ⟨g, o, _, _, _, rfl, hg, OC, _, _⟩ := HRQ.out.at hpc HX
  have hi0 : (0 : Int) ≤ (pc : Int) := by omega
  have hi1 : (pc : Int) < (n : Int) := by omega
  have HTB : Hid ((q.kind == 16) = t) := by unfold Hid; rw [← HT.out]; rfl
  have c0 := OC.c0
  obtain ⟨n0, n1, n2, n3, n4, n5, n6, n7, n8, nf0, nf1, nf2, nf3, nf4, nf5, nf6, nf7, nf8, nlt⟩ := N
  clear hm1 hm2 hm3 hq1 hq2 HRQ HM OC
  go_enter Tryd.func15, Tryd.ntmps15
  go_wp2_with fail
  go_quiet (fail)
  rw [HTB.out]
  go_wp2_with fail
  go_ret
  exact ⟨rfl, below_drewN (Below.refl _ _) nq⟩

set_option maxHeartbeats 8000000 in
set_option maxRecDepth 100000 in
theorem mat_any (B b : Nat) (F : List Nat) (qs : List Pq) (st : Ms) (w : World) (HM : Hid (Mac w B b F qs st)) :
    Calls Tryd.prog 14 #[.pointer (some ⟨b, 0, none⟩)] w fun e w' => e = .returned (.int .i64 (st.pc : Int)) ∧ Below w.heap.size w w' := by
  obtain ⟨vo, bm, vr, vb, vk, vf, hm1, hm2, hm3⟩ := HM.out
  obtain ⟨N, hB⟩ := mac_nine hm1
  obtain ⟨n0, n1, n2, n3, n4, n5, n6, n7, n8, nf0, nf1, nf2, nf3, nf4, nf5, nf6, nf7, nf8, nlt⟩ := N
  clear hm1 hm2 hm3 HM
  go_enter Tryd.func14, Tryd.ntmps14
  go_wp2_with fail
  go_ret
  exact ⟨rfl, Below.refl _ _⟩
end Go.Proofs.YtjmkfcgnadpbaaaDoor
/- Close, as lists: the loops that are open, what is told of those that are closed. -/
namespace Go.Proofs.YtjmkfcgnadpbaaaDoor
open Go.RowKit Go.Maps

/-- the loops that are open ahead of the op at k, the innermost one last -/
def stk (qs : List Pq) : Nat → List Nat
  | 0 => []
  | k + 1 => if (qs.getD k pq0).kind = 12 then stk qs k ++ [k] else if (qs.getD k pq0).kind = 13 ∧ 0 < (stk qs k).length then (stk qs k).dropLast else stk qs k
/-- what is told ahead of the op at k -/
def clD (qs : List Pq) : Nat → DataW Unit
  | 0 => .map []
  | k + 1 => if (qs.getD k pq0).kind = 13 ∧ 0 < (stk qs k).length then (clD qs k).put (.int .i64 (((stk qs k).getD ((stk qs k).length - 1) 0 : Nat) : Int)) (.lit (.int .i64 (k : Int))) else clD qs k
theorem stk_le (qs : List Pq) : ∀ k, (stk qs k).length ≤ k ∧ ∀ p ∈ stk qs k, p < k := by
  intro k
  induction k with
  | zero => simp [stk]
  | succ k ih =>
    unfold stk
    split
    · refine ⟨by simp; omega, fun p hp => ?_⟩
      rcases List.mem_append.1 hp with h | h
      · have := ih.2 p h; omega
      · simp at h; omega
    · split
      · refine ⟨by simp; omega, fun p hp => ?_⟩
        have := ih.2 p (List.dropLast_subset _ hp); omega
      · exact ⟨by omega, fun p hp => by have := ih.2 p hp; omega⟩
theorem clD_map (qs : List Pq) : ∀ k, IsMap (clD qs k) := by
  intro k
  induction k with
  | zero => exact isMap_empty
  | succ k ih =>
    unfold clD
    split
    · exact ih.put _ _
    · exact ih
/-- what holds of the open loops of a book -/
structure StkI (qs : List Pq) (k : Nat) : Prop where
  len : ((stk qs k).length : Int) = dep qs k
  inn : ∀ m, m < (stk qs k).length → (stk qs k).getD m 0 < k ∧ (qs.getD ((stk qs k).getD m 0) pq0).kind = 12 ∧ dep qs ((stk qs k).getD m 0) = m ∧ ∀ j, (stk qs k).getD m 0 < j → j ≤ k → (m : Int) + 1 ≤ dep qs j
theorem dropLast_getN (l : List Nat) {m : Nat} (h : m < l.length - 1) : l.dropLast.getD m 0 = l.getD m 0 := by
  rw [List.getD_eq_getElem?_getD, List.getD_eq_getElem?_getD, List.getElem?_dropLast, if_pos h]
theorem stk_inv {qs : List Pq} (hb : Book qs) : ∀ k, k ≤ qs.length → StkI qs k := by
  intro k
  induction k with
  | zero => intro _; exact ⟨by simp [stk, dep_zero], fun m hm => by simp [stk] at hm⟩
  | succ k ih =>
    intro hk
    have hi := ih (by omega)
    have hs := dep_succ qs k (by omega)
    have hlo := hb.low (k + 1) hk
    unfold stk at *
    rcases opn_cases (qs.getD k pq0) with ⟨h1, h2⟩ | ⟨h1, h2⟩ | ⟨h1, h3, h2⟩
    · have e : stk qs (k + 1) = stk qs k ++ [k] := by rw [stk, if_pos h1]
      refine ⟨by rw [e]; simp; have := hi.len; omega, fun m hm => ?_⟩
      rw [e] at hm ⊢
      simp only [List.length_append, List.length_singleton] at hm
      rw [snoc_getD _ _ _ m hm]
      split
      · rename_i hm2
        have := hi.len
        refine ⟨by omega, h1, by omega, fun j j1 j2 => ?_⟩
        obtain rfl : j = k + 1 := by omega
        omega
      · obtain ⟨a1, a2, a3, a4⟩ := hi.inn m (by omega)
        refine ⟨by omega, a2, a3, fun j j1 j2 => ?_⟩
        rcases Nat.eq_or_lt_of_le j2 with rfl | j2
        · have := hi.len; omega
        · exact a4 j j1 (by omega)
    · have hpos : 0 < (stk qs k).length := by have := hi.len; omega
      have e : stk qs (k + 1) = (stk qs k).dropLast := by rw [stk, if_neg (by omega), if_pos ⟨h1, hpos⟩]
      refine ⟨by rw [e]; simp; have := hi.len; omega, fun m hm => ?_⟩
      rw [e] at hm ⊢
      simp only [List.length_dropLast] at hm
      rw [dropLast_getN _ hm]
      obtain ⟨a1, a2, a3, a4⟩ := hi.inn m (by omega)
      refine ⟨by omega, a2, a3, fun j j1 j2 => ?_⟩
      rcases Nat.eq_or_lt_of_le j2 with rfl | j2
      · have := hi.len; omega
      · exact a4 j j1 (by omega)
    · have e : stk qs (k + 1) = stk qs k := by rw [stk, if_neg h1, if_neg (fun h => h3 h.1)]
      refine ⟨by rw [e]; have := hi.len; omega, fun m hm => ?_⟩
      rw [e] at hm ⊢
      obtain ⟨a1, a2, a3, a4⟩ := hi.inn m hm
      refine ⟨by omega, a2, a3, fun j j1 j2 => ?_⟩
      rcases Nat.eq_or_lt_of_le j2 with rfl | j2
      · have := hi.len; omega
      · exact a4 j j1 (by omega)
/-- the loop that a Next closes -/
theorem clo_top {qs : List Pq} (hb : Book qs) {k : Nat} (hk : k < qs.length) (h : (qs.getD k pq0).kind = 13) : 0 < (stk qs k).length ∧ Clo qs ((stk qs k).getD ((stk qs k).length - 1) 0) k := by
  have hi := stk_inv hb k (by omega)
  have hs := dep_succ qs k hk
  have hlo := hb.low (k + 1) hk
  have ho : opn (qs.getD k pq0) = -1 := by unfold opn; rw [if_neg (by omega), if_pos h]
  have hpos : 0 < (stk qs k).length := by have := hi.len; omega
  obtain ⟨a1, a2, a3, a4⟩ := hi.inn ((stk qs k).length - 1) (by omega)
  refine ⟨hpos, a1, hk, a2, h, ?_, fun j j1 j2 => ?_⟩
  · have := hi.len; omega
  · have := a4 j j1 j2; omega
theorem Clo.two {qs : List Pq} {p p' j : Nat} (h : Clo qs p j) (h' : Clo qs p' j) : p = p' := by
  have h1 := h.same
  have h2 := h'.same
  rcases Nat.lt_trichotomy p p' with hl | rfl | hl
  · have := h.over p' hl (by have := h'.lt; omega); omega
  · rfl
  · have := h'.over p hl (by have := h.lt; omega); omega
theorem int_ne {a b : Nat} (h : a ≠ b) : Lit.int .i64 (a : Int) ≠ Lit.int .i64 (b : Int) := by
  intro e; simp only [Lit.int.injEq, true_and] at e; omega
theorem clD_at {qs : List Pq} (hb : Book qs) : ∀ k, k ≤ qs.length → ∀ p j, Clo qs p j → j < k → ∀ z, (clD qs k).atKey (.int .i64 (p : Int)) z = .lit (.int .i64 (j : Int)) := by
  intro k
  induction k with
  | zero => intro _ p j _ h; omega
  | succ k ih =>
    intro hk p j hc hj z
    by_cases h13 : (qs.getD k pq0).kind = 13
    · obtain ⟨t1, t2⟩ := clo_top hb hk h13
      unfold clD
      rw [if_pos ⟨h13, t1⟩]
      rcases Nat.eq_or_lt_of_le (Nat.le_of_lt_succ hj) with rfl | hj
      · rw [hc.two t2]
        exact atKey_put_same (clD_map qs _) (by constructor) _ _
      · rw [atKey_put_other (int_ne (fun e => by rw [e] at hc; have := hc.one t2; omega))]
        exact ih (by omega) p j hc hj z
    · unfold clD
      rw [if_neg (fun h => h13 h.1)]
      refine ih (by omega) p j hc ?_ z
      rcases Nat.eq_or_lt_of_le (Nat.le_of_lt_succ hj) with rfl | hj
      · exact absurd hc.next h13
      · exact hj
/-- whatever is told is a loop's -/
theorem clD_has {qs : List Pq} (hb : Book qs) : ∀ k, k ≤ qs.length → ∀ kl, has (clD qs k) kl = true → ∃ p j, kl = .int .i64 ((p : Nat) : Int) ∧ Clo qs p j ∧ j < k := by
  intro k
  induction k with
  | zero => intro _ kl h; simp [clD, has] at h
  | succ k ih =>
    intro hk kl h
    by_cases h13 : (qs.getD k pq0).kind = 13
    · obtain ⟨t1, t2⟩ := clo_top hb hk h13
      unfold clD at h
      rw [if_pos ⟨h13, t1⟩] at h
      by_cases he : kl = .int .i64 (((stk qs k).getD ((stk qs k).length - 1) 0 : Nat) : Int)
      · exact ⟨_, k, he, t2, by omega⟩
      · rw [has_put_other he] at h
        obtain ⟨p, j, a, b, c⟩ := ih (by omega) kl h
        exact ⟨p, j, a, b, by omega⟩
    · unfold clD at h
      rw [if_neg (fun h => h13 h.1)] at h
      obtain ⟨p, j, a, b, c⟩ := ih (by omega) kl h
      exact ⟨p, j, a, b, by omega⟩
/-- a row of numbers -/
def natV (l : List Nat) : List Value := l.map fun (p : Nat) => Value.int .i64 (p : Int)
theorem natV_len (l : List Nat) : (natV l).length = l.length := by simp [natV]
theorem natV_snoc (l : List Nat) (p : Nat) : natV (l ++ [p]) = natV l ++ [.int .i64 (p : Int)] := by simp [natV]
theorem natV_at (l : List Nat) {m : Nat} (h : m < l.length) : (natV l)[m]? = some (.int .i64 ((l.getD m 0 : Nat) : Int)) := by
  simp [natV, List.getD_eq_getElem?_getD, List.getElem?_eq_getElem h]
theorem natV_drop (l : List Nat) : natV l.dropLast = (natV l).take (l.length - 1) := by
  simp [natV, List.dropLast_eq_take, List.map_take]
/-- the first elements of a row of one's own -/
theorem own_cut {w : World} {B : Nat} {e : TypeId} {s : Nat} {a : Option Addr} {n c m : Nat} {xs : List Value} (h : w.ownsRow B e s (.slice a n c) n xs) (hm : m ≤ n) (hn : 0 < n) : w.ownsRow B e s (.slice a m c) m (xs.take (m * s)) := by
  rcases h.2 with ⟨_, h0⟩ | ⟨g, cap, cur, hv, hb, hg, h1, h2, h3, h4⟩
  · omega
  · simp only [Value.slice.injEq] at hv
    obtain ⟨rfl, _, rfl⟩ := hv
    have hms : m * s ≤ n * s := Nat.mul_le_mul_right _ hm
    refine ⟨by rw [List.length_take, h.1]; omega, .inr ⟨g, c, cur, rfl, hb, hg, by omega, h2, h3, ?_⟩⟩
    rw [← h4, List.take_take, Nat.min_eq_left hms]
theorem own_cap {w : World} {B : Nat} {e : TypeId} {s n c : Nat} {a : Option Addr} {xs : List Value} (h : w.ownsRow B e s (.slice a n c) n xs) : n ≤ c := by
  rcases h.2 with ⟨h0, hn⟩ | ⟨g, cap, cur, hv, _, _, h1, _⟩
  · omega
  · simp only [Value.slice.injEq] at hv; omega
end Go.Proofs.YtjmkfcgnadpbaaaDoor
/- Walk of a machine: repeat. -/
namespace Go.Proofs.YtjmkfcgnadpbaaaDoor
open Go.RowKit Go.Maps

theorem MacR.ops_only {w w' : World} {B : Nat} {vo : Value} {bm : Nat} {vr vb vk vf : Value} {qs : List Pq} {op : List (Nat × Nat)} {ob kp : List Po} {fr : List Pf} (h : MacR w B vo bm vr vb vk vf qs op ob kp fr) (ho : Only MT w w') : ∃ qv, OwnQ w' B vo qv ∧ qv.map Prod.fst = qs := by
  obtain ⟨qv, a1, a2⟩ := h.ops
  exact ⟨qv, a1.only ho (by decide) (by decide), a2⟩
theorem MacR.mp_only {w w' : World} {B : Nat} {vo : Value} {bm : Nat} {vr vb vk vf : Value} {qs : List Pq} {op : List (Nat × Nat)} {ob kp : List Po} {fr : List Pf} (h : MacR w B vo bm vr vb vk vf qs op ob kp fr) (ho : Only MT w w') : ∃ D, w'.ownsMap Tryd.prog 3 (plainElem Tryd.prog 3) bm 100 D ∧ ∀ p j, Clo qs p j → D.atKey (.int .i64 (p : Int)) (.lit (.int .i64 0)) = (.lit (.int .i64 (j : Int)) : DataW Unit) := by
  obtain ⟨D, a1, a2⟩ := h.mp
  exact ⟨D, map_only a1 ho, a2⟩
theorem MacR.obs_only {w w' : World} {B : Nat} {vo : Value} {bm : Nat} {vr vb vk vf : Value} {qs : List Pq} {op : List (Nat × Nat)} {ob kp : List Po} {fr : List Pf} (h : MacR w B vo bm vr vb vk vf qs op ob kp fr) (ho : Only MT w w') : ∃ ov, OwnOb w' B vb ov ∧ ov.map Prod.fst = ob := by
  obtain ⟨qv, a1, a2⟩ := h.obs
  exact ⟨qv, a1.only ho (by decide) (by decide), a2⟩
theorem MacR.kep_only {w w' : World} {B : Nat} {vo : Value} {bm : Nat} {vr vb vk vf : Value} {qs : List Pq} {op : List (Nat × Nat)} {ob kp : List Po} {fr : List Pf} (h : MacR w B vo bm vr vb vk vf qs op ob kp fr) (ho : Only MT w w') : ∃ ov, OwnOb w' B vk ov ∧ ov.map Prod.fst = kp := by
  obtain ⟨qv, a1, a2⟩ := h.kep
  exact ⟨qv, a1.only ho (by decide) (by decide), a2⟩
theorem MacR.frs_only {w w' : World} {B : Nat} {vo : Value} {bm : Nat} {vr vb vk vf : Value} {qs : List Pq} {op : List (Nat × Nat)} {ob kp : List Po} {fr : List Pf} (h : MacR w B vo bm vr vb vk vf qs op ob kp fr) (ho : Only [62, 108] w w') : ∃ ov, OwnFr w' B vf ov ∧ ov.map Prod.fst = fr := by
  obtain ⟨qv, a1, a2⟩ := h.frs
  exact ⟨qv, a1.only ho (by decide) (by decide), a2⟩
theorem only_MT2 {w w' : World} (h : Only [62, 108] w w') : Only MT w w' := h.mono (by decide)
theorem only_MT1 {w w' : World} (h : Only [62] w w') : Only [62, 108] w w' := h.mono (by decide)
theorem only_MTr {w w' : World} (h : Only [108] w w') : Only [62, 108] w w' := h.mono (by decide)
/-- two rows of one's own of other types lie in two blocks -/
theorem blk_ne {w : World} {B1 B2 : Nat} {e1 e2 : TypeId} {s1 s2 n1 n2 g1 g2 m1 m2 c1 c2 : Nat} {xs ys : List Value} (h1 : w.ownsRow B1 e1 s1 (.slice (some ⟨g1, 0, none⟩) m1 c1) n1 xs) (h2 : w.ownsRow B2 e2 s2 (.slice (some ⟨g2, 0, none⟩) m2 c2) n2 ys) (h : e1 ≠ e2) : g1 ≠ g2 := by
  rintro rfl
  rcases h1.2 with ⟨h0, _⟩ | ⟨g, cap, cur, hv, _, hg, _⟩
  · simp at h0
  rcases h2.2 with ⟨h0, _⟩ | ⟨g', cap', cur', hv', _, hg', _⟩
  · simp at h0
  simp only [Value.slice.injEq, Option.some.injEq, Addr.mk.injEq, and_true] at hv hv'
  obtain ⟨rfl, _⟩ := hv
  obtain ⟨rfl, _⟩ := hv'
  rw [hg] at hg'
  simp only [Option.some.injEq, Obj.cells.injEq] at hg'
  exact h hg'.2.1
theorem own_some {w : World} {B : Nat} {e : TypeId} {s n : Nat} {v : Value} {xs : List Value} (h : w.ownsRow B e s v n xs) (hn : 0 < n) : ∃ g c, v = .slice (some ⟨g, 0, none⟩) n c := by
  rcases h.2 with ⟨_, h0⟩ | ⟨g, cap, cur, hv, _⟩
  · omega
  · exact ⟨g, cap, hv⟩

/-- what grows a row writes blocks of its type alone -/
theorem only_row {w w' : World} {B : Nat} {e : TypeId} {s n : Nat} {v : Value} {xs : List Value} (ho : w.ownsRow B e s v n xs) (h : w.grownBy w' v.ownBlock) : Only [e] w w' := by
  rcases ho.2 with ⟨rfl, _⟩ | ⟨g, cap, cur, rfl, _, hg, _⟩
  · exact Only.grown0 (by simpa [Value.ownBlock] using h) _
  · exact Only.grown (by simpa [Value.ownBlock] using h) hg
theorem row_ne {w : World} {B1 B2 : Nat} {e1 e2 : TypeId} {s1 s2 n1 n2 b m c : Nat} {v : Value} {xs ys : List Value} (h1 : w.ownsRow B1 e1 s1 (.slice (some ⟨b, 0, none⟩) m c) n1 xs) (h2 : w.ownsRow B2 e2 s2 v n2 ys) (h : e1 ≠ e2) : some b ≠ v.ownBlock := by
  intro e
  rcases h2.2 with ⟨rfl, _⟩ | ⟨g, cap, cur, rfl, _, hg, _⟩
  · simp [Value.ownBlock] at e
  · simp only [Value.ownBlock, Option.some.injEq] at e
    exact blk_ne h1 h2 h e

/-- what a Next does -/
def nextM (s : Ms) : Ms :=
  if 1 < (s.opn.getD (s.opn.length - 1) (0, 0)).2 then { s with pc := (s.opn.getD (s.opn.length - 1) (0, 0)).1, opn := s.opn.dropLast ++ [((s.opn.getD (s.opn.length - 1) (0, 0)).1, (s.opn.getD (s.opn.length - 1) (0, 0)).2 - 1)] } else { s with opn := s.opn.dropLast }

set_option maxHeartbeats 8000000 in
set_option maxRecDepth 100000 in
theorem mrep_any (B b : Nat) (F : List Nat) (qs : List Pq) (st : Ms) (w : World) (HM : Hid (Mac w B b F qs st)) (h0 : 0 < st.opn.length) (h3 : st.opn.length ≤ 1000) (hl : 1 ≤ (st.opn.getD (st.opn.length - 1) (0, 0)).2 ∧ (st.opn.getD (st.opn.length - 1) (0, 0)).2 ≤ 9) :
    Calls Tryd.prog 42 #[.pointer (some ⟨b, 0, none⟩)] w fun e w' => e = .returned (.tuple #[]) ∧ Mac w' B b F qs (nextM st) ∧ Foot F F w w' := by
  obtain ⟨vo, bm, vr, vb, vk, vf, hm1, hm2, hm3⟩ := HM.out
  obtain ⟨N, hB⟩ := mac_nine hm1
  obtain ⟨gr, cr, hvr⟩ := own_some hm2.rnd h0
  obtain ⟨j, HJ⟩ : ∃ j, Hid (st.opn.length = j + 1) := ⟨st.opn.length - 1, by unfold Hid; omega⟩
  rw [HJ.out] at hvr h0 h3
  rw [HJ.out, Nat.add_sub_cancel] at hl
  subst hvr
  have hrn := hm2.rnd
  rw [HJ.out] at hrn
  have hne := blk_ne hm1 hrn (by decide)
  obtain ⟨p, l, HPL⟩ : ∃ p l, Hid (st.opn.getD j (0, 0) = (p, l)) := ⟨_, _, (rfl : _ = _)⟩
  rw [HPL.out] at hl
  obtain ⟨hl1, hl9⟩ := hl
  simp only at hl1 hl9
  have hr0 : w.cell? ⟨gr, j * 2, none⟩ = some (.int .i64 (p : Int)) := by
    rw [hrn.cellAt (j * 2) (by omega), (rndCells_at st.opn j (by rw [HJ.out]; omega)).1, HPL.out]
  have hr1 : w.cell? ⟨gr, j * 2 + 1, none⟩ = some (.int .i64 (l : Int)) := by
    rw [hrn.cellAt (j * 2 + 1) (by omega), (rndCells_at st.opn j (by rw [HJ.out]; omega)).2, HPL.out]
  have hrf : w.frozen? ⟨gr, j * 2 + 1, none⟩ = false := hrn.frozenAt _
  have hst := hrn.stored (j * 2 + 1) (.int .i64 ((l - 1 : Nat) : Int))
  have hre : (rndCells st.opn).set (j * 2 + 1) (.int .i64 ((l - 1 : Nat) : Int)) = rndCells (st.opn.dropLast ++ [(p, l - 1)]) := by
    have := rndCells_last st.opn (l - 1) (by rw [HJ.out]; omega)
    rw [HJ.out, Nat.add_sub_cancel, HPL.out] at this
    exact this
  rw [hre] at hst
  have hll : ((l - 1 : Nat) : Int) = (l : Int) - 1 := by omega
  rw [hll] at hst
  obtain ⟨hs1, hs2⟩ := hst
  obtain ⟨cur, hcur⟩ := mac_typ hrn
  have hcr := own_cap hrn
  have ho1 : Only [108] w (w.setCell ⟨gr, j * 2 + 1, none⟩ (.int .i64 ((l : Int) - 1))) := Only.grown (by simpa [Value.ownBlock] using hs2) hcur
  have hf1 : Foot F F w (w.setCell ⟨gr, j * 2 + 1, none⟩ (.int .i64 ((l : Int) - 1))) := Foot.grown hs2 (fun g hg => hm3.rnd g hg)
  have hM1 := own_only hm1 ho1 (by decide)
  obtain ⟨n0, n1, n2, n3, n4, n5, n6, n7, n8, nf0, nf1, nf2, nf3, nf4, nf5, nf6, nf7, nf8, nlt⟩ := N
  have HNX : Hid (nextM st = if 1 < l then { st with pc := p, opn := st.opn.dropLast ++ [(p, l - 1)] } else { st with opn := st.opn.dropLast }) := by
    unfold Hid nextM
    rw [HJ.out, Nat.add_sub_cancel, HPL.out]
  have hji0 : (0 : Int) ≤ (j : Int) := by omega
  have hji1 : (j : Int) < ((j + 1 : Nat) : Int) := by omega
  have hjc : (j : Int) ≤ (cr : Int) := by omega
  have hne' : gr ≠ b := fun e => hne e.symm
  have hM2 := hid_of2 hm2
  have hM3 := hid_of2 hm3
  have HS1 := hid_of2 hs1
  have HO1 := hid_of2 ho1
  have HF1 := hid_of2 hf1
  have HM1 := hid_of2 hM1
  clear hm2 hm3 hm1 hs1 hs2 ho1 hf1 hM1 hrn HM hcur hre hll
  have HOL : Hid ((st.opn.dropLast ++ [(p, l - 1)]).length = j + 1) := by unfold Hid; rw [List.length_append, List.length_dropLast, HJ.out]; rfl
  by_cases hgt : 1 < l
  · have HNX2 := HNX.out
    rw [if_pos hgt] at HNX2
    have HN2 := hid_of2 HNX2
    have hgi : (0 : Int) < (l : Int) - 1 := by omega
    clear HNX HNX2
    go_enter Tryd.func42, Tryd.ntmps42
    go_wp2_with fail
    (first | go_end0 | refine bodyPost_ret (results_none rfl _ _ _) rfl ?_)
    obtain ⟨k1, k2, k3⟩ := mac_set HM1.out 2 (.int .i64 (p : Int))
    have ho := only_MT2 ((only_MTr HO1.out).trans (only_MT1 k2))
    refine ⟨rfl, ⟨vo, bm, _, vb, vk, vf, ?_, ⟨hM2.out.ops_only ho, hM2.out.mpl, hM2.out.mp_only ho, ?_, ?_, ?_, ?_⟩, hM3.out⟩, HF1.out.trans (k3 F hM3.out.self)⟩
    · rw [HN2.out]; exact k1
    · rw [HN2.out, HOL.out]; exact own_only HS1.out k2 (by decide)
    · rw [HN2.out]; exact hM2.out.obs_only ho
    · rw [HN2.out]; exact hM2.out.kep_only ho
    · rw [HN2.out]; exact hM2.out.frs_only ((only_MTr HO1.out).trans (only_MT1 k2))
  · have HNX2 := HNX.out
    rw [if_neg hgt] at HNX2
    have HN2 := hid_of2 HNX2
    have hgi : ¬ (0 : Int) < (l : Int) - 1 := by omega
    have HDL : Hid (st.opn.dropLast.length = j) := by unfold Hid; rw [List.length_dropLast, HJ.out]; rfl
    clear HNX HNX2
    go_enter Tryd.func42, Tryd.ntmps42
    go_wp2_with fail
    (first | go_end0 | refine bodyPost_ret (results_none rfl _ _ _) rfl ?_)
    obtain ⟨k1, k2, k3⟩ := mac_set HM1.out 3 (.slice (some ⟨gr, 0, none⟩) j cr)
    have ho := only_MT2 ((only_MTr HO1.out).trans (only_MT1 k2))
    refine ⟨rfl, ⟨vo, bm, .slice (some ⟨gr, 0, none⟩) j cr, vb, vk, vf, ?_, ⟨hM2.out.ops_only ho, hM2.out.mpl, hM2.out.mp_only ho, ?_, ?_, ?_, ?_⟩, hM3.out.self, hM3.out.rnd, hM3.out.frs, hM3.out.low⟩, HF1.out.trans (k3 F hM3.out.self)⟩
    · rw [HN2.out]; exact k1
    · rw [HN2.out, HDL.out]
      have h4 := own_cut (own_only HS1.out k2 (by decide)) (m := j) (by omega) (by omega)
      have h5 := rndCells_drop (st.opn.dropLast ++ [(p, l - 1)])
      rw [HOL.out, Nat.add_sub_cancel, List.dropLast_concat] at h5
      rw [h5] at h4
      exact h4
    · rw [HN2.out]; exact hM2.out.obs_only ho
    · rw [HN2.out]; exact hM2.out.kep_only ho
    · rw [HN2.out]; exact hM2.out.frs_only ((only_MTr HO1.out).trans (only_MT1 k2))
end Go.Proofs.YtjmkfcgnadpbaaaDoor
/- Walk of a machine: enter, no time. -/
namespace Go.Proofs.YtjmkfcgnadpbaaaDoor
open Go.RowKit Go.Maps

theorem law_int' : Keyed Tryd.prog 3 := int_keyed Tryd.underlying3
theorem zero_int (w : World) : (zeroValue 3).run Tryd.prog w = .ok (.int .i64 0) w := by kernel_rfl

set_option maxHeartbeats 8000000 in
set_option maxRecDepth 100000 in
theorem ment0_any (B b : Nat) (F : List Nat) (qs : List Pq) (st : Ms) (w : World) (HM : Hid (Mac w B b F qs st)) (hpc : st.pc ≤ 1000) (j : Nat) (HC : Hid (Clo qs st.pc j)) :
    Calls Tryd.prog 41 #[.pointer (some ⟨b, 0, none⟩), .int .i64 0] w fun e w' => e = .returned (.tuple #[]) ∧ Mac w' B b F qs { st with pc := j } ∧ Foot F F w w' := by
  obtain ⟨vo, bm, vr, vb, vk, vf, hm1, hm2, hm3⟩ := HM.out
  obtain ⟨N, hB⟩ := mac_nine hm1
  obtain ⟨D, hd1, hd2⟩ := hm2.mp
  obtain ⟨c, hrun, hat, hwc⟩ := hd1.lookup_int law_int' Tryd.underlying59 Tryd.underlying3 (zero_int _) (keyOf_int_mk Tryd.underlying3 (WalkArith.wf_i64 (n := (st.pc : Int)) (by omega)))
  rw [hd2 _ _ HC.out] at hat
  have hcj : c = (j : Int) := by simp only [DataW.lit.injEq, Lit.int.injEq, true_and] at hat; exact hat.symm
  subst hcj
  obtain ⟨n0, n1, n2, n3, n4, n5, n6, n7, n8, nf0, nf1, nf2, nf3, nf4, nf5, nf6, nf7, nf8, nlt⟩ := N
  have HRUN : Hid (∀ w', Below w.heap.size w w' → (Instr.lookup 59 (.map (some bm)) (.int .i64 (st.pc : Int)) false).run Tryd.prog w' = .ok (.int .i64 (j : Int)) w') := by
    intro w' hb
    obtain ⟨c', hrun', hat', _⟩ := (map_only hd1 (Only.below hb [])).lookup_int law_int' Tryd.underlying59 Tryd.underlying3 (zero_int _) (keyOf_int_mk Tryd.underlying3 (WalkArith.wf_i64 (n := (st.pc : Int)) (by omega)))
    rw [hd2 _ _ HC.out] at hat'
    simp only [DataW.lit.injEq, Lit.int.injEq, true_and] at hat'
    subst hat'
    exact hrun'
  have hM1 := hid_of2 hm1
  have hM2 := hid_of2 hm2
  have hM3 := hid_of2 hm3
  obtain ⟨pc, HPC⟩ : ∃ pc, Hid (st.pc = pc) := ⟨_, (rfl : _ = _)⟩
  rw [HPC.out] at n2 HRUN
  have KEEP : Hid (∀ w', Below w.heap.size w w' → w'.cell? ⟨b, 1, none⟩ = some (.map (some bm)) ∧ w'.cell? ⟨b, 2, none⟩ = some (.int .i64 (pc : Int)) ∧ (Instr.lookup 59 (.map (some bm)) (.int .i64 (pc : Int)) false).run Tryd.prog w' = .ok (.int .i64 (j : Int)) w') := by
    intro w' h
    exact ⟨by rw [h.cell (p := ⟨b, 1, none⟩) nlt]; exact n1, by rw [h.cell (p := ⟨b, 2, none⟩) nlt]; exact n2, HRUN.out w' h⟩
  clear hm1 hm2 hm3 HM hd1 hd2 hrun hat hwc
  go_enter Tryd.func41, Tryd.ntmps41
  go_wp2_with fail
  have hrun0 := HRUN.out _ (Below.refl _ _).drew
  have hrun1 := HRUN.out _ (Below.refl _ _)
  go_still_tail 10, (by kernel_rfl)
  go_wp2_with fail
  (first | go_end0 | refine bodyPost_ret (results_none rfl _ _ _) rfl ?_)
  obtain ⟨k1, k2, k3⟩ := mac_set hM1.out 2 (.int .i64 (j : Int))
  have ho := only_MT2 (only_MT1 k2)
  have hX : Mac (w.setCell ⟨b, 2, none⟩ (.int .i64 (j : Int))) B b F qs { st with pc := j } :=
    ⟨vo, bm, vr, vb, vk, vf, k1, ⟨hM2.out.ops_only ho, hM2.out.mpl, hM2.out.mp_only ho, own_only hM2.out.rnd k2 (by decide), hM2.out.obs_only ho, hM2.out.kep_only ho, hM2.out.frs_only (only_MT1 k2)⟩, hM3.out⟩
  exact ⟨rfl, hX.on (Below.refl _ _).drew, (k3 F hM3.out.self).trans (Foot.below (Below.refl _ _).drew F)⟩
end Go.Proofs.YtjmkfcgnadpbaaaDoor
/- Walk of a machine: enter, some times. -/
namespace Go.Proofs.YtjmkfcgnadpbaaaDoor
open Go.RowKit Go.Maps

theorem Tryd.infoRnd : (Tryd.prog.info? 108).map (fun i => (i.zero, i.size, i.bytes)) = some (some (.agg #[.int .i64 0, .int .i64 0]), 2, 16) := by kernel_rfl

set_option maxHeartbeats 8000000 in
set_option maxRecDepth 100000 in
theorem ment_any (B b : Nat) (F : List Nat) (qs : List Pq) (st : Ms) (w : World) (HM : Hid (Mac w B b F qs st)) (hol : st.opn.length ≤ 1000) (t : Nat) (ht : 1 ≤ t) :
    Calls Tryd.prog 41 #[.pointer (some ⟨b, 0, none⟩), .int .i64 (t : Int)] w fun e w' => e = .returned (.tuple #[]) ∧ ∃ F', Mac w' B b F' qs { st with opn := st.opn ++ [(st.pc, t)] } ∧ Foot F F' w w' := by
  obtain ⟨i0, hi, hz0, hz1, hz2⟩ := info_parts Tryd.infoRnd
  obtain ⟨vo, bm, vr, vb, vk, vf, hm1, hm2, hm3⟩ := HM.out
  obtain ⟨N, hB⟩ := mac_nine hm1
  obtain ⟨oa, oc, hvr⟩ := own_any hm2.rnd
  obtain ⟨m, HML⟩ : ∃ m, Hid (st.opn.length = m) := ⟨_, (rfl : _ = _)⟩
  rw [HML.out] at hvr hol
  subst hvr
  have hrn := hm2.rnd
  rw [HML.out] at hrn
  obtain ⟨n0, n1, n2, n3, n4, n5, n6, n7, n8, nf0, nf1, nf2, nf3, nf4, nf5, nf6, nf7, nf8, nlt⟩ := N
  obtain ⟨pc, HPC⟩ : ∃ pc, Hid (st.pc = pc) := ⟨_, (rfl : _ = _)⟩
  rw [HPC.out] at n2
  have hbx : Hid (Below w.heap.size w (w.drew.alloc (.cells #[.int .i64 (pc : Int), .int .i64 (t : Int)] 108))) := (Below.refl _ _).drew.alloc (by simp) _
  have hBw : B ≤ w.heap.size := by omega
  have hrx := own_on2 hrn hbx.out
  obtain ⟨v', w3, hr, h1, h2, _, hat⟩ := run_append_own_at (P := Tryd.prog) (w.drew.alloc (.cells #[.int .i64 (pc : Int), .int .i64 (t : Int)] 108)) B 60 60 108 i0 (.agg #[.int .i64 0, .int .i64 0]) 2 16 Tryd.underlying60 hi hz0 hz1 hz2 rfl (by decide) _ _ _ hrx ⟨w.heap.size, 0, none⟩ 1 1 [.int .i64 (pc : Int), .int .i64 (t : Int)] rfl (fun j u hj => new_cells w.drew _ _ j u hj) (by intro u hu; simp at hu; rcases hu with rfl | rfl <;> rfl) (by unfold maxLen; omega) (by omega) (by simp; omega)
  have HR := hid_of2 hr
  have hxn3 : (w.drew.alloc (.cells #[.int .i64 (pc : Int), .int .i64 (t : Int)] 108)).cell? ⟨b, 3, none⟩ = some (.slice oa m oc) := by rw [hbx.out.cell (p := ⟨b, 3, none⟩) nlt]; exact n3
  have hxn2 : (w.drew.alloc (.cells #[.int .i64 (pc : Int), .int .i64 (t : Int)] 108)).cell? ⟨b, 2, none⟩ = some (.int .i64 (pc : Int)) := by rw [hbx.out.cell (p := ⟨b, 2, none⟩) nlt]; exact n2
  have hne : some b ≠ (Value.slice oa m oc).ownBlock := row_ne hm1 hrn (by decide)
  have h3c : Hid (w3.cell? ⟨b, 2, none⟩ = some (.int .i64 (pc : Int))) := h2.cell hxn2 hne
  obtain ⟨va, vc, hv'⟩ := own_any h1
  subst hv'
  have h3d : w3.cell? ⟨b, 3, none⟩ = some (.slice oa m oc) := h2.cell hxn3 hne
  have hf3 : w3.frozen? ⟨b, 3, none⟩ = false := by
    have hblk := h2.block b (by have := hbx.out.size; omega) hne
    rw [World.frozen?_of_block hblk, hbx.out.frozen (p := ⟨b, 3, none⟩) nlt]; exact nf3
  have h5c : Hid ((w3.setCell ⟨b, 3, none⟩ (.slice va (m + 1) vc)).cell? ⟨b, 2, none⟩ = some (.int .i64 (pc : Int))) := by
    unfold Hid
    rw [World.cell?_setCell_other _ _ _ _ (by simp)]; exact h3c.out
  have FIN : Hid (∃ F', Mac (w3.setCell ⟨b, 3, none⟩ (.slice va (m + 1) vc)) B b F' qs { st with opn := st.opn ++ [(st.pc, t)] } ∧ Foot F F' w (w3.setCell ⟨b, 3, none⟩ (.slice va (m + 1) vc))) := by
    have hMX := own_on2 hm1 hbx.out
    have hM3 := hMX.kept h2 (.inr hne)
    obtain ⟨k1, k2, k3⟩ := mac_set hM3 3 (.slice va (m + 1) vc)
    have o1 : Only [62, 108] w w3 := (Only.below hbx.out _).trans (only_MTr (only_row hrx h2))
    have o2 := o1.trans (only_MT1 k2)
    have o3 := only_MT2 o2
    have hrow : (w3.setCell ⟨b, 3, none⟩ (.slice va (m + 1) vc)).ownsRow B 108 2 (.slice va (m + 1) vc) (st.opn ++ [(st.pc, t)]).length (rndCells (st.opn ++ [(st.pc, t)])) := by
      rw [List.length_append, HML.out]
      have := own_only h1 k2 (by decide)
      rw [rndCells_app, HPC.out]
      exact this
    have hfoot := ((Foot.below hbx.out F).trans (Foot.grown h2 (fun g hg => hm3.rnd g hg))).trans (k3 F hm3.self)
    have hmr : MacR (w3.setCell ⟨b, 3, none⟩ (.slice va (m + 1) vc)) B vo bm (.slice va (m + 1) vc) vb vk vf qs (st.opn ++ [(st.pc, t)]) st.obs st.kept st.frs := ⟨hm2.ops_only o3, hm2.mpl, hm2.mp_only o3, hrow, hm2.obs_only o3, hm2.kep_only o3, hm2.frs_only o2⟩
    rcases hat with h | h
    · exact ⟨F, ⟨vo, bm, _, vb, vk, vf, k1, hmr, hm3.self, fun g hg => hm3.rnd g (by rw [← h]; exact hg), hm3.frs, hm3.low⟩, hfoot⟩
    · refine ⟨(w.drew.alloc (.cells #[.int .i64 (pc : Int), .int .i64 (t : Int)] 108)).heap.size :: F, ⟨vo, bm, _, vb, vk, vf, k1, hmr, List.mem_cons_of_mem _ hm3.self, fun g hg => ?_, fun g hg => List.mem_cons_of_mem _ (hm3.frs g hg), fun g hg => ?_⟩, hfoot.cons _ (.inr ⟨hbx.out.size, ?_⟩)⟩
      · rw [h] at hg; simp at hg; subst hg; simp
      · rcases List.mem_cons.1 hg with rfl | hg
        · have := hbx.out.size; omega
        · exact hm3.low g hg
      · have := (h1.lt _ h).2; simpa using this
  clear hat h1 h2 hr hrx hrn hm1 hm2 hm3 HM hxn2 hne
  have KEEP : Hid (∀ w', Below w.heap.size w w' → w'.cell? ⟨b, 2, none⟩ = some (.int .i64 (pc : Int))) := by
    intro w' h
    rw [h.cell (p := ⟨b, 2, none⟩) nlt]; exact n2
  have hz3 : Hid True := trivial
  have hti : ((t : Int) == 0) = false := by rw [beq_eq_false_iff_ne]; omega
  go_enter Tryd.func41, Tryd.ntmps41
  go_wp2_with fail
  refine wp_region_held_drew (S := (fun w' => w'.cell? ⟨b, 2, none⟩ = some (.int .i64 (pc : Int)))) (by kernel_rfl) ?_ (fun hHeld => ?_)
  · exact KEEP.out _ (Below.refl _ _).drew
  refine tk (v := ?_) 0 rfl (by kernel_rfl) (by rfl) ?_ ?_
  rotate_left
  · (intro w hSw; (try dsimp only at hSw); go_simp; try with_reducible rfl)
  refine tk (v := ?_) 1 rfl (by kernel_rfl) (by rfl) ?_ ?_
  rotate_left
  · (intro w hSw; (try dsimp only at hSw); go_simp; try with_reducible rfl)
  refine tk (v := ?_) 2 rfl (by kernel_rfl) (by rfl) ?_ ?_
  rotate_left
  · (intro w hSw; (try dsimp only at hSw); go_simp; try with_reducible rfl)
  refine tk (v := ?_) 3 rfl (by kernel_rfl) (by rfl) ?_ ?_
  rotate_left
  · (intro w hSw; (try dsimp only at hSw); go_simp; try with_reducible rfl)
  refine tk (v := ?_) 5 rfl (by kernel_rfl) (by rfl) ?_ ?_
  rotate_left
  · (intro w hSw; (try dsimp only at hSw); go_simp; try with_reducible rfl)
  refine tk (v := ?_) 6 rfl (by kernel_rfl) (by rfl) ?_ ?_
  rotate_left
  · (intro w hSw; (try dsimp only at hSw); go_simp; try with_reducible rfl)
  refine tk (v := ?_) 7 rfl (by kernel_rfl) (by rfl) ?_ ?_
  rotate_left
  · (intro w hSw; (try dsimp only at hSw); go_simp; try with_reducible rfl)
  refine tk (v := ?_) 8 rfl (by kernel_rfl) (by rfl) ?_ ?_
  rotate_left
  · (intro w hSw; (try dsimp only at hSw); go_simp; try with_reducible rfl)
  refine tk (v := ?_) 9 rfl (by kernel_rfl) (by rfl) ?_ ?_
  rotate_left
  · (intro w hSw; (try dsimp only at hSw); go_simp; try with_reducible rfl)
  refine tk (v := ?_) 10 rfl (by kernel_rfl) (by rfl) ?_ ?_
  rotate_left
  · (intro w hSw; (try dsimp only at hSw); go_simp; try with_reducible rfl)
  refine wpAnyH_ready (rs := [4, 11]) (by kernel_rfl) (by simp) ?_
  refine AllReadyH.cons rfl (fun K_ hK => ?_) (AllReadyH.cons rfl (fun K_ hK => ?_) AllReadyH.nil)
  · go_simp
    refine hK.out _ _ ?_ (fun hHeld => ?_)
    · exact KEEP.out _ (Below.refl _ _).drew
    clear hK K_
    refine wpAnyH_ready (rs := [11]) (by kernel_rfl) (by simp) ?_
    refine AllReadyH.cons rfl (fun K_ hK => ?_) AllReadyH.nil
    go_simp
    refine hK.out _ _ ?_ (fun hHeld => ?_)
    · exact KEEP.out _ hbx.out
    clear hK K_
    refine wpAnyH_ready (rs := [12]) (by kernel_rfl) (by simp) ?_
    refine AllReadyH.cons rfl (fun K_ hK => ?_) AllReadyH.nil
    refine ready_app rfl (.tmp 22) (.tmp 29) 60 rfl _ _ _ ?d1a ?d1b HR.out ?_
    case d1a => rfl
    case d1b => rfl
    refine hK.out _ _ ?_ (fun hHeld => ?_)
    · exact h3c.out
    clear hK K_
    refine tk (v := ?_) 13 rfl (by kernel_rfl) (by rfl) ?_ ?_
    rotate_left
    · (intro w hSw; (try dsimp only at hSw); go_simp; try with_reducible rfl)
    refine tk (v := ?_) 14 rfl (by kernel_rfl) (by rfl) ?_ ?_
    rotate_left
    · (intro w hSw; (try dsimp only at hSw); go_simp; try with_reducible rfl)
    refine wpAnyH_ready (rs := [15]) (by kernel_rfl) (by simp) ?_
    refine AllReadyH.cons rfl (fun K_ hK => ?_) AllReadyH.nil
    go_simp
    refine hK.out _ _ ?_ (fun hHeld => ?_)
    · exact h5c.out
    clear hK K_
    refine wpAnyH_done (by kernel_rfl) ?_ _
    go_wp2_with fail
    (first | go_end0 | refine bodyPost_ret (results_none rfl _ _ _) rfl ?_)
    exact ⟨rfl, FIN.out⟩
  · go_simp
    refine hK.out _ _ ?_ (fun hHeld => ?_)
    · exact KEEP.out _ hbx.out
    clear hK K_
    refine wpAnyH_ready (rs := [4]) (by kernel_rfl) (by simp) ?_
    refine AllReadyH.cons rfl (fun K_ hK => ?_) AllReadyH.nil
    go_simp
    refine hK.out _ _ ?_ (fun hHeld => ?_)
    · exact KEEP.out _ hbx.out
    clear hK K_
    refine wpAnyH_ready (rs := [12]) (by kernel_rfl) (by simp) ?_
    refine AllReadyH.cons rfl (fun K_ hK => ?_) AllReadyH.nil
    refine ready_app rfl (.tmp 22) (.tmp 29) 60 rfl _ _ _ ?d2a ?d2b HR.out ?_
    case d2a => rfl
    case d2b => rfl
    refine hK.out _ _ ?_ (fun hHeld => ?_)
    · exact h3c.out
    clear hK K_
    refine tk (v := ?_) 13 rfl (by kernel_rfl) (by rfl) ?_ ?_
    rotate_left
    · (intro w hSw; (try dsimp only at hSw); go_simp; try with_reducible rfl)
    refine tk (v := ?_) 14 rfl (by kernel_rfl) (by rfl) ?_ ?_
    rotate_left
    · (intro w hSw; (try dsimp only at hSw); go_simp; try with_reducible rfl)
    refine wpAnyH_ready (rs := [15]) (by kernel_rfl) (by simp) ?_
    refine AllReadyH.cons rfl (fun K_ hK => ?_) AllReadyH.nil
    go_simp
    refine hK.out _ _ ?_ (fun hHeld => ?_)
    · exact h5c.out
    clear hK K_
    refine wpAnyH_done (by kernel_rfl) ?_ _
    go_wp2_with fail
    (first | go_end0 | refine bodyPost_ret (results_none rfl _ _ _) rfl ?_)
    exact ⟨rfl, FIN.out⟩
end Go.Proofs.YtjmkfcgnadpbaaaDoor
/- What is seen: lists. -/
namespace Go.Proofs.YtjmkfcgnadpbaaaDoor
open Go.RowKit

/-- an object that isn't shown -/
def Po.hide (o : Po) : Po := { o with sh := false }
theorem layO_hide (W : Nat) (ps : List (Int × Int)) (o : Po) : layO W ps o.hide = ps := rfl
theorem seen_hide (W : Nat) (t : Int) : ∀ (os : List Po) (acc : List (Int × Int)), (os.map (fun o => if o.id = t then o.hide else o)).foldl (layO W) acc = (os.filter (fun o => decide (o.id ≠ t))).foldl (layO W) acc := by
  intro os
  induction os with
  | nil => intro acc; rfl
  | cons a r ih =>
    intro acc
    by_cases h : a.id = t
    · simp only [List.map_cons, List.foldl_cons, h, if_true]
      rw [layO_hide, ih, List.filter_cons_of_neg (by simp [h])]
    · simp only [List.map_cons, List.foldl_cons, if_neg h]
      rw [ih, List.filter_cons_of_pos (by simp [h]), List.foldl_cons]
theorem set_hide (os : List Po) (hs : SortO os) (i : Nat) (hi : i < os.length) (t : Int) (ht : (os.getD i po0).id = t) : os.set i (os.getD i po0).hide = os.map (fun o => if o.id = t then o.hide else o) := by
  apply List.ext_getElem
  · simp
  · intro j h1 h2
    have hj : j < os.length := by simpa using h2
    have e : ∀ k (hk : k < os.length), os.getD k po0 = os[k] := fun k hk => by rw [List.getD_eq_getElem?_getD, List.getElem?_eq_getElem hk]; rfl
    rw [List.getElem_set, List.getElem_map]
    by_cases hij : i = j
    · subst hij
      rw [if_pos rfl, if_pos (by rw [← e i hi]; exact ht), e i hi]
    · rw [if_neg hij, if_neg]
      intro h
      rw [← e j hj] at h
      rcases Nat.lt_or_ge i j with h3 | h3
      · have := hs i j h3 hj
        omega
      · have := hs j i (by omega) hi
        omega
theorem setO_last (x : Po) : ∀ (os : List Po), SortO os → (∀ o ∈ os, o.id ≤ x.id) → ∃ pre, setO os x = pre ++ [x] ∧ ∀ o ∈ pre, o ∈ os := by
  intro os
  induction os with
  | nil => intro _ _; exact ⟨[], rfl, by simp⟩
  | cons a r ih =>
    intro hs hle
    obtain ⟨h1, h2⟩ := sort_tail hs
    unfold setO
    have ha := hle a (by simp)
    rw [if_neg (by omega)]
    by_cases h : a.id = x.id
    · rw [if_pos h]
      cases r with
      | nil => exact ⟨[], rfl, by simp⟩
      | cons b r =>
        have := h2 b (by simp)
        have := hle b (by simp)
        omega
    · rw [if_neg h]
      obtain ⟨pre, e, hm⟩ := ih h1 (fun o ho => hle o (by simp [ho]))
      exact ⟨a :: pre, by rw [e]; rfl, fun o ho => by
        rcases List.mem_cons.1 ho with h | h
        · simp [h]
        · simp [hm o h]⟩
theorem seen_check (W H : Nat) (bv ba : Int) (h1 : 1 ≤ W) (h2 : W ≤ 8) (h3 : 1 ≤ H) (h4 : H ≤ 8) (h5 : 0 ≤ bv) (h6 : bv ≤ 255) (h7 : 0 ≤ ba) (h8 : ba ≤ 255) (os : List Po) (hok : ∀ o ∈ os, o.fault' = 0) : checkL (W : Int) (H : Int) (seenL W H (bv, ba) os) = 0 := by
  unfold seenL
  have hc := check_plain W H bv ba h1 h2 h3 h4 h5 h6 h7 h8
  generalize List.replicate (W * H) (bv, ba) = acc at hc
  induction os generalizing acc with
  | nil => exact hc
  | cons a r ih =>
    rw [List.foldl_cons]
    exact ih (fun o ho => hok o (by simp [ho])) _ (layO_check W H acc a hc (hok a (by simp)))
theorem over_all (v bv ba : Int) : Fb.overL v 255 bv ba = (v, 255) := by
  unfold Fb.overL Fb.thru
  simp
/-- what covers all is seen alone -/
theorem lay_all (W H : Nat) (h1 : 1 ≤ W) (h2 : W ≤ 8) (h3 : 1 ≤ H) (h4 : H ≤ 8) (v : Int) (ps : List (Int × Int)) (hl : ps.length = W * H) : layL W ps W H (List.replicate (W * H) (v, 255)) 0 0 0 0 20 20 true = List.replicate (W * H) (v, 255) := by
  apply List.ext_getElem
  · rw [lay_len, hl, List.length_replicate]
  · intro k hk1 hk2
    have hk : k < ps.length := by rw [lay_len] at hk1; exact hk1
    have hg := lay_getD W ps W H (List.replicate (W * H) (v, 255)) 0 0 0 0 20 20 true k hk
    rw [List.getD_eq_getElem?_getD, List.getElem?_eq_getElem hk1] at hg
    simp only [Option.getD_some] at hg
    rw [hg]
    obtain ⟨m1, m2⟩ := mod_div_lt W H k (by omega) (by omega)
    rw [if_pos]
    · unfold gq
      have hidx : ((((k / W : Nat) : Int) - 0) * (W : Int) + ((k % W : Nat) : Int) - 0).toNat = k := by
        have := Nat.div_add_mod k W
        rw [Int.sub_zero, Int.sub_zero, ← Int.natCast_mul, ← Int.natCast_add, Nat.mul_comm, this]
        simp
      rw [hidx, List.getD_eq_getElem?_getD (l := List.replicate (W * H) (v, 255)), List.getElem?_replicate, if_pos (by omega)]
      simp only [Option.getD_some]
      rw [over_all]
      simp
    · unfold hasB
      generalize k % W = m at *
      generalize k / W = d at *
      simp
      omega
/-- a list of objects that shares its pixels -/
theorem rdO_sh {w : World} {B : Nat} {v : Value} {qs : List (Po × Value)} (h : w.ownsRow B 80 11 v qs.length (obCells qs)) (h2 : ∀ q ∈ qs, RdP w q.2 q.1.ps) : RdO w v (qs.map Prod.fst) := by
  rcases h.2 with ⟨rfl, h0⟩ | ⟨g, cap, cur, rfl, hb, hg, hn, hm, hs, ht⟩
  · have : qs = [] := List.length_eq_zero_iff.1 h0
    subst this
    exact ⟨none, 0, rfl, by simp, by omega, fun h => absurd rfl h⟩
  · unfold maxLen at hm
    refine ⟨some ⟨g, 0, none⟩, cap, by simp, by simpa using hn, by omega, fun hne => ⟨g, 0, rfl, ?_, fun j hj => ?_⟩⟩
    · rcases Nat.lt_or_ge g w.heap.size with h1 | h1
      · exact h1
      · rw [Array.getElem?_eq_none h1] at hg; cases hg
    · rw [List.length_map] at hj
      have e : (qs.map Prod.fst).getD j po0 = (qs.getD j qo0).1 := by
        simp [List.getD_eq_getElem?_getD, List.getElem?_eq_getElem hj]
      have hmem : qs.getD j qo0 ∈ qs := by
        rw [List.getD_eq_getElem?_getD, List.getElem?_eq_getElem hj]
        simp
      rw [e]
      have hc : ∀ x, x < 11 → w.cell? ⟨g, 0 + j * 11 + x, none⟩ = (oCells (qs.getD j qo0).1 (qs.getD j qo0).2)[x]? := fun x hx => by
        rw [Nat.zero_add, h.cellAt (j * 11 + x) (by omega)]
        exact obCells_at qs j x hj hx
      exact ⟨(qs.getD j qo0).2, ⟨hc 0 (by omega), hc 1 (by omega), hc 2 (by omega), hc 3 (by omega), hc 4 (by omega), hc 5 (by omega), hc 6 (by omega), hc 7 (by omega), hc 8 (by omega), hc 9 (by omega), hc 10 (by omega)⟩, h2 _ hmem⟩
end Go.Proofs.YtjmkfcgnadpbaaaDoor
