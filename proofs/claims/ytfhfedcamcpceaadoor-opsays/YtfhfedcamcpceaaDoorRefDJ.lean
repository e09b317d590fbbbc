/- Walk of the reference's PictureBytes. -/
import Derived.Test.YtfhfedcamcpceaaDoorM5
import Derived.Test.YtfhfedcamcpceaaDoorRefCJ
import Derived.Test.YtfhfedcamcpceaaDoorPackEJ
import Derived.Deep.RegionHeld3
import Derived.Deep.Cut
namespace Go.Proofs.YtfhfedcamcpceaaDoor
open Go.RowKit

/-- what is told of the first k rows, out of the bytes -/
def rowsG (bs : List UInt8) (L : Nat) : Nat → List UInt8
  | 0 => []
  | k + 1 => rowsG bs L k ++ Fb.shortL (rowG bs L k) (abG bs L k)

set_option maxRecDepth 100000 in
theorem guessN_le (way l u : Nat) (hl : l ≤ 255) (hu : u ≤ 255) : guessN way l u ≤ 255 := by
  unfold guessN
  split
  · exact hl
  · split
    · exact hu
    · split <;> omega

/-- what holds at each call: the picture reads, and what lay there lies there -/
def Gd (w : World) (v : Value) (ps : List (Int × Int)) (w' : World) : Prop := RdP w' v ps ∧ Below w.heap.size w w'
set_option maxRecDepth 100000 in
theorem Gd.on {w : World} {v : Value} {ps : List (Int × Int)} {w1 w2 : World} (h : Gd w v ps w1) (hb : Below w1.heap.size w1 w2) : Gd w v ps w2 := ⟨h.1.on hb, h.2.trans (hb.mono h.2.size)⟩

set_option maxRecDepth 100000 in
theorem Gd.drew {w : World} {v : Value} {ps : List (Int × Int)} {w1 : World} (h : Gd w v ps w1) : Gd w v ps w1.drew := ⟨h.1, h.2.drew⟩

set_option maxRecDepth 100000 in
theorem ext_drop1 (s : ByteArray) : (s.extract 1 s.size).data.toList = s.data.toList.drop 1 := by
  rw [ByteArray.data_extract, Array.toList_extract, List.extract_eq_take_drop, List.take_of_length_le (by simp)]
set_option maxRecDepth 100000 in
theorem packed_s (s : ByteArray) (w : World) (hs : s.size ≤ 1000000) (l : List UInt8) (HL : Hid (s.data.toList = l)) (t : ByteArray) (HT : Hid (Fb.packL l = t.data.toList)) :
    Calls Tryd.prog 56 #[.string s] w fun e w' => e = .returned (.string t) ∧ Below w.heap.size w w' := by
  have h := packed_any s w hs
  rw [HL.out, HT.out, str_self] at h
  exact h

set_option maxRecDepth 100000 in
theorem Gd.drewN {w : World} {v : Value} {ps : List (Int × Int)} {w1 : World} (h : Gd w v ps w1) (q : Nat) : Gd w v ps (w1.drewN q) := ⟨h.1, below_drewN h.2 q⟩
set_option maxRecDepth 100000 in
theorem Three.drewN2 {W : World} {b : Nat} {x y z : Value} (h : Three W b x y z) (q : Nat) : Three (W.drewN q) b x y z := ⟨h.c0, h.c1, h.c2, h.f0, h.f1, h.f2, h.lt⟩

set_option maxRecDepth 100000 in
theorem run_pairG (X : World) (B : Nat) (a b : Int) (x y : UInt8) (ha : Hid ((x.toNat : Int) = a)) (hb : Hid ((y.toNat : Int) = b)) (h0 : X.cell? ⟨B, 0, none⟩ = some (.int .u8 a)) (h1 : X.cell? ⟨B, 1, none⟩ = some (.int .u8 b)) :
    (convert 59 9 (.slice (some ⟨B, 0, none⟩) 2 2)).run Tryd.prog X = .ok (.string ⟨#[x, y]⟩) X := by
  refine run_convert_bytes_back _ 59 9 5 ⟨B, 0, none⟩ 2 [x, y] Tryd.underlying59 Tryd.underlying5 Tryd.underlying9 ?_
  intro j hj
  match j, hj with
  | 0, _ => rw [← ha.out] at h0; simpa [Addr.add] using h0
  | 1, _ => rw [← hb.out] at h1; simpa [Addr.add] using h1

def bestIs (row ab : List UInt8) (m : Nat) (b : ByteArray) : Prop := m ≠ 0 → b.data.toList = UInt8.ofNat (Fb.bestTo row ab m) :: Fb.tellL (Fb.bestTo row ab m) row ab

set_option maxHeartbeats 4000000 in
set_option maxRecDepth 100000 in
theorem refBytes_ok (W H : Nat) (a : Option Addr) (n cap : Nat) (bs : List UInt8) (w : World) (HR : Hid (RdP w (.slice a n cap) (pixOf bs))) (HC : Hid (checkL (W : Int) (H : Int) (pixOf bs) = 0)) (HLN : Hid (bs.length = H * (2 * W)))
    (hW1 : 1 ≤ W) (hW : W ≤ 8) (hH1 : 1 ≤ H) (hH : H ≤ 8) (hn : n ≤ 64) :
    Calls Tryd.prog 27 #[.agg #[.int .i64 (W : Int), .int .i64 (H : Int), .slice a n cap]] w fun e w' => e = .returned (.tuple #[str (UInt8.ofNat W :: UInt8.ofNat H :: Fb.packL (rowsG bs (2 * W) H)), .int .i64 0]) ∧ Below w.heap.size w w' := by
  have H3 := three_start w (.int .i64 (W : Int)) (.int .i64 (H : Int)) (.slice a n cap) 24
  obtain ⟨w0, HW0⟩ : ∃ w0, Hid (w.alloc (.cells #[.int .i64 (W : Int), .int .i64 (H : Int), .slice a n cap] 24) = w0) := ⟨_, (rfl : _ = _)⟩
  have hb0 : Below w.heap.size w w0 := by rw [← HW0.out]; exact (Below.refl _ _).alloc (Nat.le_refl _) _
  have HR0 : Hid (RdP w0 (.slice a n cap) (pixOf bs)) := HR.out.on hb0
  rw [HW0.out] at H3
  have hpl : (pixOf bs).length ≤ 1000000000 := by obtain ⟨_, _, hv, _⟩ := HR.out; simp only [Value.slice.injEq] at hv; omega
  go_enter Tryd.func27, Tryd.ntmps27
  go_wp2_with fail
  rw [HW0.out]
  refine (fault_any (W : Int) (H : Int) _ (pixOf bs) w0 hpl HR0 0 HC).mono ?_
  rintro e w1 ⟨rfl, hb1⟩
  have H31 : Hid (Three w1 w.heap.size (.int .i64 (W : Int)) (.int .i64 (H : Int)) (.slice a n cap)) := H3.on hb1
  have HG1 : Hid (Gd w (.slice a n cap) (pixOf bs) w1) := ⟨HR0.out.on hb1, hb0.trans (hb1.mono hb0.size)⟩
  clear H3 hb0 hb1 HR0
  go_wp2_with fail
  go_loopw [5, 6] (fun s y wr => ∃ (k : Nat) (o : ByteArray), k ≤ H ∧ y = .int .i64 k ∧ s = .string o ∧ Hid (o.data.toList = rowsG bs (2 * W) k) ∧ Hid (Three wr w.heap.size (.int .i64 (W : Int)) (.int .i64 (H : Int)) (.slice a n cap)) ∧ Hid (Gd w (.slice a n cap) (pixOf bs) wr) ∧ o.size ≤ k * 17) (fun _ y _ => H - (intOf y).toNat)
  case atStart => exact ⟨0, ⟨#[]⟩, by omega, rfl, rfl, rfl, H31, HG1, by decide⟩
  case round =>
    clear H31 HG1
    obtain ⟨k, o, hk, rfl, rfl, HO, H3R, HGR, hos⟩ := hrel
    obtain ⟨t0, t1, t2, f0, f1, f2, tl⟩ := H3R.out
    by_cases hlt : k < H
    · obtain ⟨row, HROW⟩ : ∃ row, Hid (rowG bs (2 * W) k = row) := ⟨_, (rfl : _ = _)⟩
      obtain ⟨ab, HAB⟩ : ∃ ab, Hid (abG bs (2 * W) k = ab) := ⟨_, (rfl : _ = _)⟩
      have HRL : Hid (row.length = 2 * W) := by
        unfold Hid; rw [← HROW.out]; unfold rowG
        rw [List.length_take, List.length_drop, HLN.out]
        have h1 : (k + 1) * (2 * W) ≤ H * (2 * W) := Nat.mul_le_mul_right _ (by omega)
        rw [Nat.add_mul, Nat.one_mul] at h1
        omega
      go_wp2_with fail
      go_loopw [7, 8] (fun b m wr2 => ∃ (m' : Nat) (bb : ByteArray), m' ≤ 4 ∧ m = .int .i64 m' ∧ b = .string bb ∧ Hid (bestIs row ab m' bb) ∧ Hid (Three wr2 w.heap.size (.int .i64 (W : Int)) (.int .i64 (H : Int)) (.slice a n cap)) ∧ Hid (Gd w (.slice a n cap) (pixOf bs) wr2)) (fun _ m _ => 4 - (intOf m).toNat)
      case atStart => exact ⟨0, ⟨#[]⟩, by omega, rfl, rfl, fun h => absurd rfl h, H3R, HGR⟩
      case round =>
        clear t0 t1 t2 f0 f1 f2 tl
        obtain ⟨m, bb, hm, rfl, rfl, HBB, H3S, HGS⟩ := hrel
        obtain ⟨t0, t1, t2, f0, f1, f2, tl⟩ := H3S.out
        by_cases hm4 : m < 4
        · have hdec : decide ((m : Int) < 4) = true := by simp; omega
          obtain ⟨nb, HNB⟩ : ∃ nb, Hid (UInt8.ofNat m = nb) := ⟨_, (rfl : _ = _)⟩
          have HNI : Hid ((nb.toNat : Int) = (m : Int)) := by unfold Hid; rw [← HNB.out, UInt8.toNat_ofNat']; omega
          have hcv := run_one1 (wr.alloc (.cells #[.int .u8 (m : Int)] 5)) wr.heap.size (m : Int) nb HNI (by simp)
          have hba : Below wr.heap.size wr (wr.alloc (.cells #[.int .u8 (m : Int)] 5)) := (Below.refl _ _).alloc (Nat.le_refl _) _
          have H3A : Hid (Three (wr.alloc (.cells #[.int .u8 (m : Int)] 5)) w.heap.size (.int .i64 (W : Int)) (.int .i64 (H : Int)) (.slice a n cap)) := H3S.out.on hba
          have HGA : Hid (Gd w (.slice a n cap) (pixOf bs) (wr.alloc (.cells #[.int .u8 (m : Int)] 5))) := HGS.out.on hba
          go_wp2_with fail
          go_loopw [9, 10] (fun tv iv wr3 => ∃ (i : Nat) (tb : ByteArray), i ≤ 2 * W ∧ iv = .int .i64 i ∧ tv = .string tb ∧ Hid (tb.data.toList = nb :: Fb.tellTo m row ab i) ∧ tb.size = i + 1 ∧ Hid (Three wr3 w.heap.size (.int .i64 (W : Int)) (.int .i64 (H : Int)) (.slice a n cap)) ∧ Hid (Gd w (.slice a n cap) (pixOf bs) wr3)) (fun _ iv _ => 2 * W - (intOf iv).toNat)
          case atStart => exact ⟨0, ⟨#[nb]⟩, by omega, rfl, rfl, rfl, rfl, H3A, HGA⟩
          case round =>
            clear t0 t1 t2 f0 f1 f2 tl hcv hba H3A HGA
            obtain ⟨i, tb, hi, rfl, rfl, HTB, hts, H3I, HGI⟩ := hrel
            obtain ⟨t0, t1, t2, f0, f1, f2, tl⟩ := H3I.out
            by_cases hi2 : i < 2 * W
            · obtain ⟨bc, HBC⟩ : ∃ r, Hid ((bs.getD (k * (2 * W) + i) 0).toNat = r) := ⟨_, (rfl : _ = _)⟩
              obtain ⟨bl, HBL⟩ : ∃ r, Hid ((leftG bs (2 * W) k i).toNat = r) := ⟨_, (rfl : _ = _)⟩
              obtain ⟨bu, HBU⟩ : ∃ r, Hid ((upG bs (2 * W) k i).toNat = r) := ⟨_, (rfl : _ = _)⟩
              obtain ⟨bg, HBG⟩ : ∃ r, Hid (guessN m bl bu = r) := ⟨_, (rfl : _ = _)⟩
              have hbc := byte_le _ bc HBC
              have hbl := byte_le _ bl HBL
              have hbu := byte_le _ bu HBU
              have hq1 : IntKind.i64.wrap ((i : Int) - 2) = (i : Int) - 2 := by rw [IntKind.wrap_i64]; omega
              have hq2 : IntKind.i64.wrap ((k : Int) - 1) = (k : Int) - 1 := by rw [IntKind.wrap_i64]; omega
              have hq3 : IntKind.i64.wrap ((bc : Int) - (bg : Int)) = (bc : Int) - (bg : Int) := by
                have := guessN_le m bl bu hbl hbu
                rw [HBG.out] at this
                rw [IntKind.wrap_i64]; omega
              obtain ⟨nd, HND⟩ : ∃ nd, Hid (row.getD i 0 - Fb.guessB m row ab i = nd) := ⟨_, (rfl : _ = _)⟩
              obtain ⟨D, HD⟩ : ∃ D, Hid (nd.toNat = D) := ⟨_, (rfl : _ = _)⟩
              have HDI : Hid ((nd.toNat : Int) = (D : Int)) := by unfold Hid; rw [HD.out]
              have hDb := byte_le nd D HD
              have hbgb : bg ≤ 255 := by rw [← HBG.out]; exact guessN_le m bl bu hbl hbu
              have hdm : ((bc : Int) - (bg : Int) + 512) % 256 = (D : Int) := by
                rw [← HDI.out, ← HND.out]
                refine (told_byte _ _ bc bg ?_ ?_).symm
                · rw [← HROW.out, rowG_getD _ _ _ _ hi2, HBC.out]
                · rw [← HROW.out, ← HAB.out, ← guess_row _ _ _ _ _ hi2, HBL.out, HBU.out, HBG.out]
              have HT2 : Hid ((tb ++ ⟨#[nd]⟩).data.toList = nb :: Fb.tellTo m row ab (i + 1)) := by
                unfold Hid; rw [ByteArray.data_append, Array.toList_append, HTB.out, Fb.tellTo, HND.out]; simp
              have hts2 : (tb ++ ⟨#[nd]⟩ : ByteArray).size = i + 1 + 1 := by rw [ByteArray.size_append, hts]; rfl
              have hcv := fun X : World => run_one1 (X.alloc (.cells #[.int .u8 (D : Int)] 5)) X.heap.size (D : Int) nd HDI (by simp)
              have H3D := H3I.out.drew
              have HGD := HGI.out.drew
              go_upto_region 16 with fail
              go_region_held3 (fun w' => w'.cell? ⟨w.heap.size, 0, none⟩ = some (.int .i64 (W : Int)) ∧ w'.cell? ⟨w.heap.size, 1, none⟩ = some (.int .i64 (H : Int)) ∧ w'.cell? ⟨w.heap.size, 2, none⟩ = some (.slice a n cap) ∧ Hid (Three w' w.heap.size (.int .i64 (W : Int)) (.int .i64 (H : Int)) (.slice a n cap)) ∧ Hid (Gd w (.slice a n cap) (pixOf bs) w'))
                (first | exact ⟨HXc.c0, HXc.c1, HXc.c2, HXc, HGc⟩ | exact ⟨HXb.c0, HXb.c1, HXb.c2, HXb, HGb⟩ | exact ⟨HXa.c0, HXa.c1, HXa.c2, HXa, HGa⟩ | exact ⟨H3D.c0, H3D.c1, H3D.c2, H3D, HGD⟩ | fail)
                (first
                  | (go_at_call 55; refine (guess_any m bl bu _ (by omega) hbl hbu bg HBG).mono ?_; rintro e wx ⟨rfl, rfl⟩)
                  | (go_at_call 54; have HGb1 := HGb.1; refine (up_at W H k i a n cap bs _ HGb1 hW hH hlt hi2 HLN bu HBU).mono ?_; rintro e wx ⟨rfl, hbx⟩; have HXc := HXb.on hbx; have HGc := HGb.on hbx)
                  | (go_at_call 54; have HGa1 := HGa.1; refine (left_at W H k i a n cap bs _ HGa1 hW hH hlt hi2 HLN bl HBL).mono ?_; rintro e wx ⟨rfl, hbx⟩; have HXb := HXa.on hbx; have HGb := HGa.on hbx)
                  | (go_at_call 54; refine (cur_at W H k i a n cap bs _ HGD.1 hW hH hlt hi2 HLN bc HBC).mono ?_; rintro e wx ⟨rfl, hbx⟩; have HXa := H3D.on hbx; have HGa := HGD.on hbx)
                  | fail)
              all_goals (have HXd : Hid (Three _ _ _ _ _) := HXc.alloc (.cells #[.int .u8 (D : Int)] 5))
              all_goals (have HGd : Hid (Gd _ _ _ _) := HGc.on ((Below.refl _ _).alloc (Nat.le_refl _) (.cells #[.int .u8 (D : Int)] 5)))
              all_goals clear HXa HXb HXc HGa HGb HGc t0 t1 t2 f0 f1 f2 tl
              all_goals go_wp2_with fail
              all_goals (go_roundw; (case rel => exact ⟨i + 1, tb ++ ⟨#[nd]⟩, by omega, by go_num, rfl, HT2, hts2, HXd, HGd⟩); (case measure => simp [intOf]; omega))
            · have hie : i = 2 * W := by omega
              subst hie
              have HTL : Hid (tb.data.toList = nb :: Fb.tellL m row ab) := by unfold Hid; rw [HTB.out]; unfold Fb.tellL; rw [HRL.out]
              clear HTB
              by_cases hm0 : m = 0
              · subst hm0
                have HB1 : Hid (bestIs row ab 1 tb) := by
                  unfold Hid bestIs
                  intro _
                  rw [HTL.out, ← HNB.out, best_step]; simp [Fb.bestTo]
                have hmb : (((0 : Nat) : Int) == 0) = true := by decide
                go_wp2_with fail
                go_quiet (fail)
                go_wp2_with fail
                go_roundw
                case rel => exact ⟨1, tb, by omega, by go_num, rfl, HB1, H3I.out.drewN2 _, HGI.out.drewN _⟩
                case measure => simp [intOf]
              · obtain ⟨p1, HP1⟩ := bytes_of (Fb.packL (Fb.tellL m row ab))
                obtain ⟨p2, HP2⟩ := bytes_of (Fb.packL (Fb.tellL (Fb.bestTo row ab m) row ab))
                have hbl : bb.size = 2 * W + 1 := by
                  have h := HBB.out hm0
                  have h2 : bb.size = bb.data.toList.length := by simp
                  rw [h2, h, List.length_cons, Fb.tellL, Fb.tellTo_len, HRL.out]
                have HE1 : Hid ((tb.extract 1 tb.size).data.toList = Fb.tellL m row ab) := by
                  unfold Hid; rw [ext_drop1, HTL.out]; rfl
                have HE2 : Hid ((bb.extract 1 bb.size).data.toList = Fb.tellL (Fb.bestTo row ab m) row ab) := by
                  unfold Hid; rw [ext_drop1, HBB.out hm0]; rfl
                have hmb : ((m : Int) == 0) = false := by rw [beq_eq_false_iff_ne]; omega
                have hs1 : (tb.extract 1 tb.size).size ≤ 1000000 := by rw [ByteArray.size_extract]; omega
                have hs2 : (bb.extract 1 bb.size).size ≤ 1000000 := by rw [ByteArray.size_extract]; omega
                have H3D := H3I.out.drew
                have HGD := HGI.out.drew
                have hp1 : p1.size = (Fb.packL (Fb.tellL m row ab)).length := size_of HP1
                have hp2 : p2.size = (Fb.packL (Fb.tellL (Fb.bestTo row ab m) row ab)).length := size_of HP2
                have hp1b : p1.size ≤ 1000 := by rw [hp1]; have := Fb.packL_len (Fb.tellL m row ab); rw [Fb.tellL, Fb.tellTo_len, HRL.out] at this; unfold Fb.tellL; rw [HRL.out]; omega
                have hp2b : p2.size ≤ 1000 := by rw [hp2]; have := Fb.packL_len (Fb.tellL (Fb.bestTo row ab m) row ab); rw [Fb.tellL, Fb.tellTo_len, HRL.out] at this; unfold Fb.tellL; rw [HRL.out]; omega
                obtain ⟨b2, HB2E⟩ : ∃ b2 : ByteArray, Hid (b2 = if p1.size < p2.size then tb else bb) := ⟨_, (rfl : _ = _)⟩
                have HB2 : Hid (bestIs row ab (m + 1) b2) := by
                  unfold Hid bestIs
                  intro _
                  rw [HB2E.out, best_step]
                  by_cases hc : p1.size < p2.size
                  · rw [if_pos hc, if_pos ⟨by omega, hm0⟩, HTL.out, HNB.out]
                  · rw [if_neg hc, if_neg (fun h => hc (by omega)), HBB.out hm0]
                have hv1 : 1 ≤ tb.size := by omega
                have hv2 : 1 ≤ bb.size := by omega
                have hv3 : (1 : Int) ≤ (tb.size : Int) := by omega
                have hv4 : (1 : Int) ≤ (bb.size : Int) := by omega
                have hv5 : ¬ (tb.size : Int) < 1 := by omega
                have hv6 : ¬ (bb.size : Int) < 1 := by omega
                clear hts hbl
                go_wp2_with fail
                go_region_held3 (fun w' => Hid (Three w' w.heap.size (.int .i64 (W : Int)) (.int .i64 (H : Int)) (.slice a n cap)) ∧ Hid (Gd w (.slice a n cap) (pixOf bs) w'))
                  (first | exact ⟨HXb, HGb⟩ | exact ⟨HXa, HGa⟩ | exact ⟨H3D, HGD⟩ | fail)
                  (first
                    | (go_at_call 56; have HGa1 := HGa.1; refine (packed_s _ _ hs2 _ HE2 p2 HP2).mono ?_; rintro e wx ⟨rfl, hbx⟩; have HXb := HXa.on hbx; have HGb := HGa.on hbx)
                    | (go_at_call 56; refine (packed_s _ _ hs1 _ HE1 p1 HP1).mono ?_; rintro e wx ⟨rfl, hbx⟩; have HXa := H3D.on hbx; have HGa := HGD.on hbx)
                    | fail)
                all_goals clear HXa HGa H3D HGD t0 t1 t2 f0 f1 f2 tl H3I HGI
                all_goals
                  (by_cases hc : p1.size < p2.size
                   · have hb2 : b2 = tb := by rw [HB2E.out, if_pos hc]
                     subst hb2
                     go_wp2_with fail
                     go_roundw
                     case rel => exact ⟨m + 1, b2, by omega, by go_num, rfl, HB2, HXb, HGb⟩
                     case measure => simp [intOf]; omega
                   · have hb2 : b2 = bb := by rw [HB2E.out, if_neg hc]
                     subst hb2
                     go_wp2_with fail
                     go_roundw
                     case rel => exact ⟨m + 1, b2, by omega, by go_num, rfl, HB2, HXb, HGb⟩
                     case measure => simp [intOf]; omega)
        · have hme : m = 4 := by omega
          subst hme
          have HSL : Hid (bb.data.toList = Fb.shortL row ab) := HBB.out (by omega)
          have hbs : bb.size = 2 * W + 1 := by
            have h2 : bb.size = bb.data.toList.length := by simp
            rw [h2, HSL.out, Fb.shortL_len, HRL.out]; omega
          have HO2 : Hid ((o ++ bb).data.toList = rowsG bs (2 * W) (k + 1)) := by
            unfold Hid; rw [ByteArray.data_append, Array.toList_append, HO.out, HSL.out, ← HROW.out, ← HAB.out]; rfl
          have hos2 : (o ++ bb).size ≤ (k + 1) * 17 := by rw [ByteArray.size_append, hbs]; omega
          go_wp2_with fail
          go_roundw
          case rel => exact ⟨k + 1, o ++ bb, by omega, by go_num, rfl, HO2, H3S, HGS, hos2⟩
          case measure => simp [intOf]; omega
    · have hkH : k = H := by omega
      have HRS : Hid (o.data.toList = rowsG bs (2 * W) H) := by unfold Hid; rw [← hkH]; exact HO.out
      obtain ⟨p, HP⟩ := bytes_of (Fb.packL (rowsG bs (2 * W) H))
      have hqs : o.size ≤ 136 := by omega
      have hps : p.size ≤ 272 := by
        rw [size_of HP]; have := Fb.packL_len (rowsG bs (2 * W) H)
        rw [← HRS.out] at this ⊢
        have h2 : o.data.toList.length = o.size := by simp
        omega
      have HPK : Hid (∀ X, Calls Tryd.prog 56 #[.string o] X fun e w' => e = .returned (.string p) ∧ Below X.heap.size X w') := fun X => packed_s o X (by omega) _ HRS p HP
      have hw1 : IntKind.u8.wrap (W : Int) = (W : Int) := by rw [IntKind.wrap_u8]; omega
      have hw2 : IntKind.u8.wrap (H : Int) = (H : Int) := by rw [IntKind.wrap_u8]; omega
      obtain ⟨xw, HXW⟩ : ∃ x, Hid (UInt8.ofNat W = x) := ⟨_, (rfl : _ = _)⟩
      obtain ⟨xh, HXH⟩ : ∃ x, Hid (UInt8.ofNat H = x) := ⟨_, (rfl : _ = _)⟩
      have HXI : Hid ((xw.toNat : Int) = (W : Int)) := by unfold Hid; rw [← HXW.out, Fb.ofNat_toNat _ (by omega)]
      have HYI : Hid ((xh.toNat : Int) = (H : Int)) := by unfold Hid; rw [← HXH.out, Fb.ofNat_toNat _ (by omega)]
      have hcv : ∀ (X : World) (B : Nat), X.cell? ⟨B, 0, none⟩ = some (.int .u8 (W : Int)) → X.cell? ⟨B, 1, none⟩ = some (.int .u8 (H : Int)) → (convert 59 9 (.slice (some ⟨B, 0, none⟩) 2 2)).run Tryd.prog X = .ok (.string ⟨#[xw, xh]⟩) X := fun X B => run_pairG X B (W : Int) (H : Int) xw xh HXI HYI
      have H3r := H3R.out
      have HTA := H3r.drew
      have HTB := (H3r.alloc (.cells #[.int .u8 (W : Int), .int .u8 (H : Int)] 5)).drew
      have HDU := duo_start wr (.int .u8 (W : Int)) (.int .u8 (H : Int)) 5
      have HFIN : Hid (str (UInt8.ofNat W :: UInt8.ofNat H :: Fb.packL (rowsG bs (2 * W) H)) = .string (⟨#[xw, xh]⟩ ++ p)) := by
        unfold Hid
        rw [HXW.out, HXH.out, HP.out, ← str_self]
        rw [ByteArray.data_append]; simp
      have hsz2 : (⟨#[xw, xh]⟩ : ByteArray).size = 2 := rfl
      have hbwr : Below w.heap.size w wr := HGR.out.2
      have hbA : Below w.heap.size w wr.drew := hbwr.drew
      have hsA : w.heap.size ≤ wr.drew.heap.size := hbwr.size
      have hbB : Below w.heap.size w (wr.alloc (.cells #[.int .u8 (W : Int), .int .u8 (H : Int)] 5)).drew := (hbwr.alloc hbwr.size _).drew
      have hsB2 : w.heap.size ≤ (wr.alloc (.cells #[.int .u8 (W : Int), .int .u8 (H : Int)] 5)).drew.heap.size := hbB.size
      clear hkH
      go_upto_region 21 with fail
      go_cut [2, 3] from 5 (fun s2 s3 wc => s2 = .string (⟨#[xw, xh]⟩ ++ p) ∧ s3 = .int .i64 0 ∧ Below w.heap.size w wc)
      case first =>
        go_region_with (go_at_call 56; refine (HPK.out _).mono ?_; rintro e w4 ⟨rfl, hb4⟩; (first | (have H34 := HTA.on hb4; have hbf := hbA.trans (hb4.mono hsA)) | (have H34 := HTB.on hb4; have hbf := hbB.trans (hb4.mono hsB2); have HD4 := HDU.on hb4; obtain ⟨e0, e1, _⟩ := HD4)); obtain ⟨q0, q1, q2, _, _, _, _⟩ := H34)
        all_goals (go_wp2_with fail; go_meet)
        all_goals first | exact ⟨rfl, rfl, hbf⟩ | exact ⟨rfl, rfl, hbf.alloc hbf.size _⟩
      case rest =>
        obtain ⟨rfl, rfl, hbc⟩ := hcut
        go_wp2_with fail
        go_ret2
        exact ⟨by rw [HFIN.out]; rfl, hbc⟩
end Go.Proofs.YtfhfedcamcpceaaDoor
