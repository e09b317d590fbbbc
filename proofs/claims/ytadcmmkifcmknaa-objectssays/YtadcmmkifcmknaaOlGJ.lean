/- Walks: objects.Seen. -/
import Derived.Test.YtadcmmkifcmknaaM6
import Derived.Test.YtadcmmkifcmknaaSeenLJ
import Derived.Test.YtadcmmkifcmknaaPlainOJ
namespace Go.Proofs.Ytadcmmkifcmknaa
open Go.RowKit

set_option maxHeartbeats 2000000 in
set_option maxRecDepth 100000 in
theorem seenC_any (id x y pw ph : Int) (u : Value) (ps : List (Int × Int)) (cx cy cw ch : Int) (sh : Bool) (w : World) (hps : ps.length ≤ 1000000000) (HR : Hid (RdP w u ps)) (HC : Hid (objC id x y pw ph ps cx cy cw ch = 0)) :
    Calls Try.prog 41 #[objV id x y pw ph u cx cy cw ch sh] w fun e w' => e = .returned (.bool false) ∧ Below w.heap.size w w' := by
  have hbz : Below w.heap.size w (w.alloc (.cells #[.int .i64 id, .int .i64 x, .int .i64 y, .int .i64 pw, .int .i64 ph, u, .int .i64 cx, .int .i64 cy, .int .i64 cw, .int .i64 ch, .bool sh] 29)) := (Below.refl _ _).alloc (Nat.le_refl _) _
  have HR0 : Hid (RdP _ _ _) := HR.out.on hbz
  unfold objV
  go_enter Try.func41, Try.ntmps41
  go_wp2_with fail
  refine (ocheck_any id x y pw ph u ps cx cy cw ch sh _ hps HR0 0 HC).mono ?_
  rintro e w1 ⟨rfl, hb1⟩
  rw [show errV 0 = Value.nilIface from rfl]
  go_wp2_with fail
  go_ret
  exact ⟨rfl, hbz.trans (hb1.mono hbz.size)⟩

set_option maxHeartbeats 2000000 in
set_option maxRecDepth 100000 in
theorem indexO_any (v : Value) (os : List Po) (w : World) (hos : os.length ≤ 1000) (hps : ∀ j, j < os.length → (os.getD j po0).ps.length ≤ 100) (hok : ∀ j, j < os.length → (os.getD j po0).fault' = 0) (HR : Hid (RdO w v os)) :
    Calls Try.prog 61 #[v, .func (.func 41) #[] #[]] w fun e w' => e = .returned (.int .i64 (-1)) ∧ Below w.heap.size w w' := by
  obtain ⟨a, cap, hv, hl, hcap⟩ := HR.out.shape
  have HPS : Hid (∀ j, j < os.length → (os.getD j po0).ps.length ≤ 100) := hps
  have HOK : Hid (∀ j, j < os.length → (os.getD j po0).fault' = 0) := hok
  obtain ⟨n, HN⟩ : ∃ n, Hid (os.length = n) := ⟨_, (rfl : _ = _)⟩
  rw [HN.out] at hv hl hos
  clear hps hok
  subst hv
  have hbz : Below w.heap.size w w := Below.refl _ _
  go_enter Try.func61, Try.ntmps61
  go_wp2_with fail
  go_loopw [8] (fun i wr => ∃ k : Nat, k ≤ n ∧ i = .int .i64 k ∧ Below w.heap.size w wr) (fun i _ => n - (intOf i).toNat)
  case atStart => exact ⟨0, by omega, rfl, hbz⟩
  case round =>
    obtain ⟨k, hk, rfl, hbr⟩ := hrel
    by_cases hlt : k < n
    · have hlt' : k < os.length := by rw [HN.out]; exact hlt
      obtain ⟨o, HX⟩ : ∃ o, Hid (os.getD k po0 = o) := ⟨_, (rfl : _ = _)⟩
      have hpl : o.ps.length ≤ 100 := by rw [← HX.out]; exact HPS.out k hlt'
      have HF : Hid (o.fault' = 0) := by unfold Hid; rw [← HX.out]; exact HOK.out k hlt'
      obtain ⟨g, p, ua, q, uc, rfl, hg, OC, HU, HM⟩ := (HR.out.on hbr).at hlt HX
      obtain ⟨c0, c1, c2, c3, c4, c5, c6, c7, c8, c9, c10⟩ := OC
      obtain ⟨id, x, y, pw, ph, ps, cx, cy, cw, ch, sh⟩ := o
      simp only at c0 c1 c2 c3 c4 c5 c6 c7 c8 c9 c10 HU HM hpl
      have HF2 : Hid (objC id x y pw ph ps cx cy cw ch = 0) := HF.out
      clear hlt' HX HF
      have hki0 : (0 : Int) ≤ (k : Int) := by omega
      have hki1 : (k : Int) < (n : Int) := by omega
      go_wp2_with fail
      refine (seenC_any id x y pw ph _ ps cx cy cw ch sh _ (by omega) HU HF2).mono ?_
      rintro e w1 ⟨rfl, hb1⟩
      have hbw1 : Below w.heap.size w w1 := hbr.trans (hb1.mono hbr.size)
      go_wp2_with fail
      go_roundw
      case rel => exact ⟨k + 1, by omega, by go_num, hbw1⟩
      case measure => simp [intOf]; omega
    · obtain rfl : k = n := by omega
      go_wp2_with fail
      go_ret
      exact ⟨rfl, hbr⟩

set_option maxRecDepth 100000 in
theorem containsO_any (v : Value) (os : List Po) (w : World) (hos : os.length ≤ 1000) (hps : ∀ j, j < os.length → (os.getD j po0).ps.length ≤ 100) (hok : ∀ j, j < os.length → (os.getD j po0).fault' = 0) (HR : Hid (RdO w v os)) :
    Calls Try.prog 40 #[v, .func (.func 41) #[] #[]] w fun e w' => e = .returned (.bool false) ∧ Below w.heap.size w w' := by
  obtain ⟨a, cap, hv, _, _⟩ := HR.out.shape
  subst hv
  go_enter Try.func40, Try.ntmps40
  go_wp2_with fail
  refine (indexO_any _ os _ hos hps hok HR).mono ?_
  rintro e w1 ⟨rfl, hb1⟩
  go_wp2_with fail
  go_ret
  exact ⟨rfl, hb1⟩

/-- pixels read as before where another block's cell is stored into -/
theorem rdP_set {w : World} {u : Value} {ps : List (Int × Int)} (h : RdP w u ps) {b : Nat} (hne : ∀ z n c, u = .slice (some z) n c → z.block ≠ b) (j : Nat) (x : Value) : RdP (w.setCell ⟨b, j, none⟩ x) u ps := by
  obtain ⟨a, cap, hv, hl, hc, hh⟩ := h
  refine ⟨a, cap, hv, hl, hc, fun h0 => ?_⟩
  obtain ⟨g, off, ha, hg, hcell⟩ := hh h0
  have hgb : g ≠ b := hne ⟨g, off, none⟩ _ _ (by rw [hv, ha])
  refine ⟨g, off, ha, by simpa using hg, fun j' hj => ?_⟩
  rw [World.cell?_of_block (a := ⟨g, off + j' * 2, none⟩) (Below.heap_setCell w ⟨b, j, none⟩ x g (by simpa using hgb)), World.cell?_of_block (a := ⟨g, off + j' * 2 + 1, none⟩) (Below.heap_setCell w ⟨b, j, none⟩ x g (by simpa using hgb))]
  exact hcell j' hj
theorem check_plain (W H : Nat) (v a : Int) (h1 : 1 ≤ W) (h2 : W ≤ 8) (h3 : 1 ≤ H) (h4 : H ≤ 8) (h5 : 0 ≤ v) (h6 : v ≤ 255) (h7 : 0 ≤ a) (h8 : a ≤ 255) : checkL (W : Int) (H : Int) (List.replicate (W * H) (v, a)) = 0 := by
  have s1 : sideB (W : Int) = true := by unfold sideB; simp; omega
  have s2 : sideB (H : Int) = true := by unfold sideB; simp; omega
  unfold checkL
  rw [s1, s2, if_neg (by simp), if_neg (by simp), if_pos]
  rw [List.all_eq_true]
  intro x hx
  rw [(List.mem_replicate.1 hx).2]
  unfold okPix shadeB
  simp
  omega
theorem layO_check (W H : Nat) (ps : List (Int × Int)) (o : Po) (hp : checkL (W : Int) (H : Int) ps = 0) (ho : o.fault' = 0) : checkL (W : Int) (H : Int) (layL W ps o.pw.toNat o.ph.toNat o.ps o.x o.y o.cx o.cy o.cw o.ch o.sh) = 0 := by
  have hz := (objC_zero _ _ _ _ _ _ _ _ _ _ ho).2.2.2.2.2.2.2.2.2.2.2.2.2.2
  obtain ⟨PW, PH, e1, e2, _⟩ := check_zero _ _ _ hz
  refine lay_check W H ps _ _ _ _ _ _ _ _ _ _ hp ?_
  rw [e1, e2] at hz ⊢
  simpa using hz
/-- one object more is seen -/
def layO (W : Nat) (ps : List (Int × Int)) (o : Po) : List (Int × Int) := layL W ps o.pw.toNat o.ph.toNat o.ps o.x o.y o.cx o.cy o.cw o.ch o.sh
/-- what Seen answers -/
def seenL (W H : Nat) (back : Int × Int) (os : List Po) : List (Int × Int) := os.foldl (layO W) (List.replicate (W * H) back)

set_option maxHeartbeats 4000000 in
set_option maxRecDepth 100000 in
theorem seen_own (v : Value) (os : List Po) (W H : Nat) (bv ba : Int) (w : World) (hos : os.length ≤ 1000) (hps : ∀ j, j < os.length → (os.getD j po0).ps.length ≤ 100) (hok : ∀ j, j < os.length → (os.getD j po0).fault' = 0) (HR : Hid (RdO w v os))
    (h1 : 1 ≤ W) (h2 : W ≤ 8) (h3 : 1 ≤ H) (h4 : H ≤ 8) (h5 : 0 ≤ bv) (h6 : bv ≤ 255) (h7 : 0 ≤ ba) (h8 : ba ≤ 255) :
    Calls Try.prog 23 #[v, .int .i64 (W : Int), .int .i64 (H : Int), pixV bv ba] w fun e w' => ∃ v', e = .returned (picV W H v') ∧ w'.ownsRow (w.heap.size + 2) 33 2 v' (seenL W H (bv, ba) os).length (pixCells (seenL W H (bv, ba) os)) ∧ Below w.heap.size w w' := by
  obtain ⟨a, cap, hv, hl, hcap⟩ := HR.out.shape
  have HPS : Hid (∀ j, j < os.length → (os.getD j po0).ps.length ≤ 100) := hps
  have HOK : Hid (∀ j, j < os.length → (os.getD j po0).fault' = 0) := hok
  obtain ⟨n, HN⟩ : ∃ n, Hid (os.length = n) := ⟨_, (rfl : _ = _)⟩
  have hos2 := hos
  rw [HN.out] at hv hl hos
  clear hps hok
  subst hv
  unfold pixV
  go_enter Try.func23, Try.ntmps23
  obtain ⟨W0, HW0⟩ : ∃ W0, Hid ((w.alloc (.cells #[.int .i64 bv, .int .i64 ba] 33)).alloc (.cells #[.int .i64 0, .int .i64 0, .slice none 0 0] 25) = W0) := ⟨_, (rfl : _ = _)⟩
  have hb0 : Below w.heap.size w W0 := by rw [← HW0.out]; exact ((Below.refl _ _).alloc (Nat.le_refl _) _).alloc (by simp) _
  have hs0 : W0.heap.size = w.heap.size + 2 := by rw [← HW0.out]; simp
  have T0 : Three W0 (w.heap.size + 1) (.int .i64 0) (.int .i64 0) (.slice none 0 0) := by rw [← HW0.out]; exact three_begin _ _ _ _ _ _ (by simp)
  go_wp2_with fail
  rw [HW0.out]
  refine (plainO_any W H bv ba h1 h2 h3 h4 W0).mono ?_
  unfold picV
  rintro e w1 ⟨u1, rfl, ho1, hb1⟩
  have hm1 : 1 * 1 ≤ W * H := Nat.mul_le_mul h1 h3
  obtain ⟨g1, uc1, rfl, hg10, _, _⟩ := own_shape ho1 (by omega)
  have hgw : g1 ≠ w.heap.size + 1 := by omega
  have hg1 : g1 < w1.heap.size := (ho1.lt g1 rfl).2
  have HR1 : Hid (w1.ownsRow (w.heap.size + 2) 33 2 (Value.slice (some ⟨g1, 0, none⟩) (W * H) uc1) (List.replicate (W * H) (bv, ba)).length (pixCells (List.replicate (W * H) (bv, ba)))) := by unfold Hid; rw [List.length_replicate]; exact own_mono ho1 (by omega)
  obtain ⟨n1, HN1⟩ : ∃ n1, Hid (W * H = n1) := ⟨_, (rfl : _ = _)⟩
  rw [HN1.out]
  rw [show Value.slice (some ⟨g1, 0, none⟩) (W * H) uc1 = Value.slice (some ⟨g1, 0, none⟩) n1 uc1 by rw [HN1.out]] at HR1
  clear ho1 hg10
  have T1 := T0.on hb1
  have hbb1 := hb0.trans (hb1.mono hb0.size)
  have hb2 : Below w1.heap.size w1 (w1.alloc (.cells #[.int .i64 (W : Int), .int .i64 (H : Int), .slice (some ⟨g1, 0, none⟩) n1 uc1] 25)) := (Below.refl _ _).alloc (Nat.le_refl _) _
  have T2 := T1.on hb2
  have P2 := three_begin w1 (.int .i64 (W : Int)) (.int .i64 (H : Int)) (.slice (some ⟨g1, 0, none⟩) n1 uc1) 25 w1.heap.size rfl
  have HR2 := hid_of (own_on2 HR1.out hb2)
  have hbb2 := hbb1.trans (hb2.mono hbb1.size)
  have hw1 : w.heap.size + 2 ≤ w1.heap.size := by have := hb1.size; omega
  have HRO2 : Hid (RdO (w1.alloc (.cells #[.int .i64 (W : Int), .int .i64 (H : Int), .slice (some ⟨g1, 0, none⟩) n1 uc1] 25)) (.slice a n cap) os) := HR.out.on hbb2
  clear hb0 hb1 hb2 T0 T1 HR1 hbb1 HW0 hs0
  go_wp2_with fail
  refine (containsO_any _ os _ hos2 HPS.out HOK.out HRO2).mono ?_
  rintro e w3 ⟨rfl, hb3⟩
  have T3 := hid_of (T2.on hb3)
  have P3 := hid_of (P2.on hb3)
  have HR3 := hid_of (own_on2 HR2.out hb3)
  have hbb3 := hbb2.trans (hb3.mono hbb2.size)
  obtain ⟨bp, HBP⟩ : ∃ bp, Hid (w1.heap.size = bp) := ⟨_, (rfl : _ = _)⟩
  rw [HBP.out] at hw1 hg1 P3
  have hgb : g1 ≠ bp := by omega
  clear hbb2 hb3 T2 P2 HR2 HRO2 hg1
  go_wp2_with fail
  rw [HBP.out]
  clear HBP
  go_loopw [21] (fun i wr => ∃ (k g c m : Nat), k ≤ n ∧ i = .int .i64 k ∧ g ≠ bp ∧ g ≠ w.heap.size + 1 ∧ bp < wr.heap.size ∧ Hid (Three wr bp (.int .i64 (W : Int)) (.int .i64 (H : Int)) (.slice (some ⟨g, 0, none⟩) m c)) ∧ Hid (Three wr (w.heap.size + 1) (.int .i64 0) (.int .i64 0) (.slice none 0 0)) ∧ Hid (wr.ownsRow (w.heap.size + 2) 33 2 (.slice (some ⟨g, 0, none⟩) m c) (seenL W H (bv, ba) (os.take k)).length (pixCells (seenL W H (bv, ba) (os.take k)))) ∧ Hid (checkL (W : Int) (H : Int) (seenL W H (bv, ba) (os.take k)) = 0) ∧ Below w.heap.size w wr) (fun i _ => n - (intOf i).toNat)
  case atStart => exact ⟨0, g1, uc1, n1, by omega, rfl, hgb, hgw, P3.out.lt, P3, T3, HR3, check_plain W H bv ba h1 h2 h3 h4 h5 h6 h7 h8, hbb3⟩
  case round =>
    obtain ⟨k, g, c, m, hk, rfl, hgn, hgw2, hbp, HP, HT, HRP, HCK, hbr⟩ := hrel
    by_cases hlt : k < n
    · have hlt' : k < os.length := by rw [HN.out]; exact hlt
      obtain ⟨o, HX⟩ : ∃ o, Hid (os.getD k po0 = o) := ⟨_, (rfl : _ = _)⟩
      have hpl : o.ps.length ≤ 100 := by rw [← HX.out]; exact HPS.out k hlt'
      have HF : Hid (o.fault' = 0) := by unfold Hid; rw [← HX.out]; exact HOK.out k hlt'
      have HS2 : Hid (seenL W H (bv, ba) (os.take (k + 1)) = layO W (seenL W H (bv, ba) (os.take k)) o) := by
        unfold Hid seenL
        rw [List.take_succ_eq_append_getElem hlt', List.foldl_append, ← HX.out, List.getD_eq_getElem?_getD, List.getElem?_eq_getElem hlt']
        rfl
      obtain ⟨g', p, ua, q, uc, rfl, hg, OC, HU, HM⟩ := (HR.out.on hbr).at hlt HX
      obtain ⟨c0, c1, c2, c3, c4, c5, c6, c7, c8, c9, c10⟩ := OC
      obtain ⟨L, HL⟩ : ∃ L, Hid (seenL W H (bv, ba) (os.take k) = L) := ⟨_, (rfl : _ = _)⟩
      rw [HL.out] at HS2 HRP HCK
      have HCK2 := layO_check W H L o HCK.out HF.out
      obtain ⟨id, x, y, pw, ph, ps, cx, cy, cw, ch, sh⟩ := o
      simp only at c0 c1 c2 c3 c4 c5 c6 c7 c8 c9 c10 HU HM hpl
      obtain ⟨z1, z2, z3, z4, z5, z6, z7, z8, z9, z10, z11, z12, z13, z14, z15⟩ := objC_zero _ _ _ _ _ _ _ _ _ _ HF.out
      obtain ⟨QW, QH, e1, e2, _⟩ := check_zero _ _ _ z15
      subst e1 e2
      have HQ := hid_of z15
      have HS3 : Hid (seenL W H (bv, ba) (os.take (k + 1)) = layL W L QW QH ps x y cx cy cw ch sh) := HS2.out
      have HCK3 : Hid (checkL (W : Int) (H : Int) (layL W L QW QH ps x y cx cy cw ch sh) = 0) := HCK2
      clear hlt' HX HF z1 z2 z15 HS2 HCK2 HL
      have hki0 : (0 : Int) ≤ (k : Int) := by omega
      have hki1 : (k : Int) < (n : Int) := by omega
      have hbx : Below wr.heap.size wr (wr.alloc (.cells #[.int .i64 id, .int .i64 x, .int .i64 y, .int .i64 (QW : Int), .int .i64 (QH : Int), .slice ua q uc, .int .i64 cx, .int .i64 cy, .int .i64 cw, .int .i64 ch, .bool sh] 29)) := (Below.refl _ _).alloc (Nat.le_refl _) _
      have HUX := hid_of (HU.out.on hbx)
      have HRX := hid_of (rdP_own (own_on2 HRP.out hbx))
      obtain ⟨p0, p1, p2, pf0, pf1, pf2, plt⟩ := HP.out.on hbx
      obtain ⟨q0, q1, q2, qf0, qf1, qf2, qlt⟩ := HP.out
      have HPX := hid_of (HP.out.on hbx)
      have HTX := hid_of (HT.out.on hbx)
      have hbX := hbr.trans (hbx.mono hbr.size)
      clear HU HRP HP HT hbx
      go_wp2_with fail
      refine (lay_any W H QW QH _ _ L ps id x y cx cy cw ch sh _ HCK HQ HRX HUX z3 z4 z5 z6 z7 z8 z9 z10 z11 z12 z13 z14).mono ?_
      unfold picV
      rintro e w2 ⟨v2, rfl, ho2, hb2⟩
      have hLne : (layL W L QW QH ps x y cx cy cw ch sh).length ≠ 0 := by
        rw [lay_len]
        obtain ⟨PW, PH, e1, e2, i1, i2, i3, i4, i5, _⟩ := check_zero _ _ _ HCK.out
        have : 1 * 1 ≤ PW * PH := Nat.mul_le_mul i1 i3
        omega
      obtain ⟨g2, c2', rfl, hg2, _, _⟩ := own_shape ho2 hLne
      have hg2b : g2 ≠ bp := by simp at hg2; omega
      have hg2w : g2 ≠ w.heap.size + 1 := by have := hbr.size; simp at hg2; omega
      have HRL := hid_of (own_mono ho2 (show w.heap.size + 2 ≤ _ by have := hbr.size; simp; omega))
      obtain ⟨m2, HM2⟩ : ∃ m2, Hid ((layL W L QW QH ps x y cx cy cw ch sh).length = m2) := ⟨_, (rfl : _ = _)⟩
      rw [HM2.out] at HRL
      have HP2 := hid_of (HPX.out.on hb2)
      have HT2 := hid_of (HTX.out.on hb2)
      have hbb := hbX.trans (hb2.mono hbX.size)
      have HRS := hid_of (ownsRow_setCell_other (ownsRow_setCell_other (ownsRow_setCell_other HRL.out (a := ⟨bp, 0, none⟩) (by simpa [Value.ownBlock] using hg2b) (.int .i64 (W : Int))) (a := ⟨bp, 1, none⟩) (by simpa [Value.ownBlock] using hg2b) (.int .i64 (H : Int))) (a := ⟨bp, 2, none⟩) (by simpa [Value.ownBlock] using hg2b) (.slice (some ⟨g2, 0, none⟩) m2 c2'))
      have HPS2 := hid_of (HP2.out.set_all (.int .i64 (W : Int)) (.int .i64 (H : Int)) (.slice (some ⟨g2, 0, none⟩) m2 c2'))
      have hwb : w.heap.size + 1 ≠ bp := by omega
      have HTS := hid_of (((HT2.out.other (j := 0) (u := .int .i64 (W : Int)) hwb).other (j := 1) (u := .int .i64 (H : Int)) hwb).other (j := 2) (u := .slice (some ⟨g2, 0, none⟩) m2 c2') hwb)
      have hbS : Below w.heap.size w (((w2.setCell ⟨bp, 0, none⟩ (.int .i64 (W : Int))).setCell ⟨bp, 1, none⟩ (.int .i64 (H : Int))).setCell ⟨bp, 2, none⟩ (.slice (some ⟨g2, 0, none⟩) m2 c2')) := ((hbb.setCell (show w.heap.size ≤ bp by omega) _).setCell (show w.heap.size ≤ bp by omega) _).setCell (show w.heap.size ≤ bp by omega) _
      obtain ⟨r0, r1, r2, rf0, rf1, rf2, rlt⟩ := HP2.out
      clear ho2 hb2 HRL hbb hbX HP2 HT2 HPX HTX HRX HUX p0 p1 p2 pf0 pf1 pf2 plt q0 q1 q2 qf0 qf1 qf2 qlt
      have hbp2 := HPS2.out.lt
      rw [HM2.out]
      go_wp2_with fail
      go_roundw
      case rel => exact ⟨k + 1, g2, c2', m2, by omega, by go_num, hg2b, hg2w, hbp2, HPS2, HTS, by rw [HS3.out, HM2.out]; exact HRS, by rw [HS3.out]; exact HCK3, hbS⟩
      case measure => simp [intOf]; omega
    · obtain rfl : k = n := by omega
      rw [List.take_of_length_le (by rw [HN.out]; exact Nat.le_refl _)] at HRP
      obtain ⟨p0, p1, p2, pf0, pf1, pf2, plt⟩ := HP.out
      obtain ⟨q0, q1, q2, qf0, qf1, qf2, qlt⟩ := HT.out
      go_wp2_with fail
      have HRS := hid_of (ownsRow_setCell_other (ownsRow_setCell_other (ownsRow_setCell_other HRP.out (a := ⟨w.heap.size + 1, 0, none⟩) (by simpa [Value.ownBlock] using hgw2) (.int .i64 (W : Int))) (a := ⟨w.heap.size + 1, 1, none⟩) (by simpa [Value.ownBlock] using hgw2) (.int .i64 (H : Int))) (a := ⟨w.heap.size + 1, 2, none⟩) (by simpa [Value.ownBlock] using hgw2) (.slice (some ⟨g, 0, none⟩) m c))
      refine bodyPost_ret (v := .agg #[.int .i64 (W : Int), .int .i64 (H : Int), .slice (some ⟨g, 0, none⟩) m c]) (by simp [results, Try.results23, go_sem, q0, q1, q2]) rfl ⟨_, rfl, HRS.out, ?_⟩
      repeat (refine Below.setCell ?_ (by simp) _)
      exact hbr
theorem seen_any (v : Value) (os : List Po) (W H : Nat) (bv ba : Int) (w : World) (hos : os.length ≤ 1000) (hps : ∀ j, j < os.length → (os.getD j po0).ps.length ≤ 100) (hok : ∀ j, j < os.length → (os.getD j po0).fault' = 0) (HR : Hid (RdO w v os))
    (h1 : 1 ≤ W) (h2 : W ≤ 8) (h3 : 1 ≤ H) (h4 : H ≤ 8) (h5 : 0 ≤ bv) (h6 : bv ≤ 255) (h7 : 0 ≤ ba) (h8 : ba ≤ 255) :
    Calls Try.prog 23 #[v, .int .i64 (W : Int), .int .i64 (H : Int), pixV bv ba] w fun e w' => ∃ v', e = .returned (picV W H v') ∧ RdP w' v' (seenL W H (bv, ba) os) ∧ Below w.heap.size w w' := by
  refine (seen_own v os W H bv ba w hos hps hok HR h1 h2 h3 h4 h5 h6 h7 h8).mono ?_
  rintro e w' ⟨v', he, ho, hb⟩
  exact ⟨v', he, rdP_own ho, hb⟩
end Go.Proofs.Ytadcmmkifcmknaa
