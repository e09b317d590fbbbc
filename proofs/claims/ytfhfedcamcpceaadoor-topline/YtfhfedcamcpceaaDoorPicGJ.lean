/- Walk of picture.Bytes. -/
import Derived.Test.YtfhfedcamcpceaaDoorM4
import Derived.Test.YtfhfedcamcpceaaDoorPicEJ
import Derived.Lib.AppendStr
namespace Go.Proofs.YtfhfedcamcpceaaDoor
open Go.RowKit

/-- the bytes of row j -/
def rowOf (ps : List (Int × Int)) (W j : Nat) : List UInt8 := flatP ((ps.drop (j * W)).take W)
def aboveOf (ps : List (Int × Int)) (W j : Nat) : List UInt8 := if j = 0 then [] else rowOf ps W (j - 1)
/-- what is told of the first k rows -/
def rowsTo (ps : List (Int × Int)) (W : Nat) : Nat → List UInt8
  | 0 => []
  | k + 1 => rowsTo ps W k ++ Fb.shortL (rowOf ps W k) (aboveOf ps W k)
def picBytes (W H : Nat) (ps : List (Int × Int)) : List UInt8 := UInt8.ofNat W :: UInt8.ofNat H :: Fb.packL (rowsTo ps W H)

set_option maxRecDepth 100000 in
theorem rowOf_len (ps : List (Int × Int)) (W H j : Nat) (hl : ps.length = W * H) (hj : j < H) : (rowOf ps W j).length = 2 * W := by
  unfold rowOf
  rw [flatP_len, List.length_take, List.length_drop, hl]
  have h1 : (j + 1) * W ≤ H * W := Nat.mul_le_mul_right W (by omega)
  have h2 : (j + 1) * W = j * W + W := by rw [Nat.add_mul, Nat.one_mul]
  have h3 : W * H = H * W := Nat.mul_comm _ _
  omega

set_option maxRecDepth 100000 in
theorem rowsTo_len (ps : List (Int × Int)) (W H : Nat) (hl : ps.length = W * H) : ∀ k, k ≤ H → (rowsTo ps W k).length = k * (1 + 2 * W)
  | 0, _ => by simp [rowsTo]
  | k + 1, hk => by
    have ih := rowsTo_len ps W H hl k (by omega)
    simp only [rowsTo, List.length_append, ih, Fb.shortL_len, rowOf_len ps W H k hl (by omega)]
    rw [Nat.add_mul]; omega

set_option maxRecDepth 100000 in
/-- rows k of the pixels, as a slice -/
theorem rdP_cut {w : World} {g off n cap : Nat} {ps : List (Int × Int)} (h : RdP w (.slice (some ⟨g, off, none⟩) n cap) ps) (lo hi : Nat) (h1 : lo < hi) (h2 : hi ≤ n) :
    RdP w (.slice (some ⟨g, off + lo * 2, none⟩) (hi - lo) (cap - lo)) ((ps.drop lo).take (hi - lo)) := by
  obtain ⟨a, c, hv, hl, hc, hh⟩ := h
  simp only [Value.slice.injEq] at hv
  obtain ⟨rfl, rfl, rfl⟩ := hv
  have hlen : ((ps.drop lo).take (hi - lo)).length = hi - lo := by rw [List.length_take, List.length_drop]; omega
  refine ⟨_, _, by rw [hlen], by rw [hlen]; omega, by omega, fun _ => ?_⟩
  obtain ⟨g', off', ha, hg, hcell⟩ := hh (by intro e; rw [e] at h2; simp at h2; omega)
  simp only [Option.some.injEq, Addr.mk.injEq, and_true] at ha
  obtain ⟨rfl, rfl⟩ := ha
  refine ⟨g, off + lo * 2, rfl, hg, fun j hj => ?_⟩
  rw [hlen] at hj
  have := hcell (lo + j) (by omega)
  have e : ((ps.drop lo).take (hi - lo)).getD j (0, 0) = ps.getD (lo + j) (0, 0) := by
    rw [List.getD_eq_getElem?_getD, List.getElem?_take, if_pos hj, List.getElem?_drop, ← List.getD_eq_getElem?_getD]
  rw [e]
  rw [show off + (lo + j) * 2 = off + lo * 2 + j * 2 by omega] at this
  exact this

set_option maxRecDepth 100000 in
theorem shortest_at (v u : Value) (row ab : List UInt8) (w : World) (hne : row ≠ []) (hlen : row.length ≤ 1000) (HR : RdB w v row) (HA : RdB w u ab) (t : ByteArray) (HT : Hid (Fb.shortL row ab = t.data.toList)) :
    Calls Tryd.prog 52 #[v, u] w fun e w' => e = .returned (.string t) ∧ Below w.heap.size w w' := by
  have h := shortest_any v u row ab w hne hlen HR HA
  rw [HT.out, str_self] at h
  exact h

set_option maxRecDepth 100000 in
theorem run_pair2 (X : World) (B : Nat) (a b : Int) (x y : UInt8) (ha : Hid ((x.toNat : Int) = a)) (hb : Hid ((y.toNat : Int) = b)) (h0 : X.cell? ⟨B, 0, none⟩ = some (.int .u8 a)) (h1 : X.cell? ⟨B, 1, none⟩ = some (.int .u8 b)) :
    (convert 59 9 (.slice (some ⟨B, 0, none⟩) 2 2)).run Tryd.prog X = .ok (.string ⟨#[x, y]⟩) X := by
  refine run_convert_bytes_back _ 59 9 5 ⟨B, 0, none⟩ 2 [x, y] Tryd.underlying59 Tryd.underlying5 Tryd.underlying9 ?_
  intro j hj
  match j, hj with
  | 0, _ => rw [← ha.out] at h0; simpa [Addr.add] using h0
  | 1, _ => rw [← hb.out] at h1; simpa [Addr.add] using h1

set_option maxRecDepth 100000 in
theorem check_ok {W H : Int} {ps : List (Int × Int)} (h : checkL W H ps = 0) : 1 ≤ W ∧ W ≤ 8 ∧ 1 ≤ H ∧ H ≤ 8 ∧ (ps.length : Int) = W * H ∧ ∀ p ∈ ps, okPix p = true := by
  unfold checkL at h
  split at h
  · simp at h
  · rename_i h1
    split at h
    · simp at h
    · rename_i h2
      split at h
      · rename_i h3
        have hw : sideB W = true := by cases hh : sideB W with | true => rfl | false => exact absurd (.inl hh) h1
        have hh : sideB H = true := by cases hh : sideB H with | true => rfl | false => exact absurd (.inr hh) h1
        unfold sideB at hw hh
        simp at hw hh
        refine ⟨hw.1, hw.2, hh.1, hh.2, by omega, fun p hp => List.all_eq_true.1 h3 p hp⟩
      · simp at h

set_option maxRecDepth 100000 in
theorem pow_slice {w : World} {v : Value} {ps : List (Int × Int)} (h : RdP w v ps) : ∃ a c, v = .slice a ps.length c := by obtain ⟨a, c, hv, _⟩ := h; exact ⟨a, c, hv⟩

set_option maxHeartbeats 4000000 in
set_option maxRecDepth 100000 in
theorem picBytes_ok (W H : Nat) (v : Value) (ps : List (Int × Int)) (w : World) (HR : Hid (RdP w v ps)) (HC : Hid (checkL (W : Int) (H : Int) ps = 0)) :
    Calls Tryd.prog 25 #[.agg #[.int .i64 (W : Int), .int .i64 (H : Int), v]] w fun e w' => e = .returned (.tuple #[str (picBytes W H ps), .nilIface]) ∧ Below w.heap.size w w' := by
  obtain ⟨i0, hi, hz0, hz1, hz2⟩ := info_parts Tryd.infoByte
  obtain ⟨hW1, hW8, hH1, hH8, hlen, hall⟩ := check_ok HC.out
  have HALL : Hid (∀ p ∈ ps, okPix p = true) := hall
  have HLEN : Hid (ps.length = W * H) := by
    unfold Hid
    have h : ((W * H : Nat) : Int) = (W : Int) * (H : Int) := by simp
    omega
  clear hlen hall
  obtain ⟨n, HNN⟩ : ∃ n, Hid (ps.length = n) := ⟨_, (rfl : _ = _)⟩
  have hn64 : n ≤ 64 := by rw [← HNN.out, HLEN.out]; have := Nat.mul_le_mul (show W ≤ 8 by omega) (show H ≤ 8 by omega); omega
  have hnH : n = W * H := by rw [← HNN.out, HLEN.out]
  have HNH : Hid (n = W * H) := hnH
  have hpne : ps ≠ [] := by
    intro e; have h := HLEN.out; rw [e] at h
    have := Nat.mul_le_mul (show 1 ≤ W by omega) (show 1 ≤ H by omega)
    simp at h; omega
  obtain ⟨a, cap, hv, hlc, hcap, hh⟩ := HR.out
  obtain ⟨g, off, rfl, hg, hcell⟩ := hh hpne
  clear hcell hh hnH
  rw [HNN.out] at hv hlc
  subst hv
  have H3 := three_start w (.int .i64 (W : Int)) (.int .i64 (H : Int)) (.slice (some ⟨g, off, none⟩) n cap) 24
  obtain ⟨w0, HW0⟩ : ∃ w0, Hid (w.alloc (.cells #[.int .i64 (W : Int), .int .i64 (H : Int), .slice (some ⟨g, off, none⟩) n cap] 24) = w0) := ⟨_, (rfl : _ = _)⟩
  have hb0 : Below w.heap.size w w0 := by rw [← HW0.out]; exact (Below.refl _ _).alloc (Nat.le_refl _) _
  have HR0 : Hid (RdP w0 (.slice (some ⟨g, off, none⟩) n cap) ps) := HR.out.on hb0
  rw [HW0.out] at H3
  have H3H : Hid (Three w0 w.heap.size (.int .i64 (W : Int)) (.int .i64 (H : Int)) (.slice (some ⟨g, off, none⟩) n cap)) := H3
  clear H3
  go_enter Tryd.func25, Tryd.ntmps25
  go_wp2_with fail
  rw [HW0.out]
  refine (check_any (W : Int) (H : Int) (.slice (some ⟨g, off, none⟩) n cap) ps w0 (by rw [HNN.out]; omega) HR0 0 HC).mono ?_
  rintro e w1 ⟨rfl, hb1⟩
  rw [errV0]
  have H31 : Hid (Three w1 w.heap.size (.int .i64 (W : Int)) (.int .i64 (H : Int)) (.slice (some ⟨g, off, none⟩) n cap)) := H3H.out.on hb1
  have HR1 : Hid (RdP w1 (.slice (some ⟨g, off, none⟩) n cap) ps) := HR0.out.on hb1
  have hbw1 : Below w.heap.size w w1 := hb0.trans (hb1.mono hb0.size)
  have k1 := H31.out.c1
  go_wp2_with fail
  clear k1
  go_loopw [5, 6, 16] (fun x u i wr => ∃ (k : Nat) (rs : List UInt8), k ≤ H ∧ i = .int .i64 k ∧ Hid (wr.ownsRow w1.heap.size 5 1 x rs.length (rs.map bv)) ∧ Hid (RdB wr u (aboveOf ps W k)) ∧ Below w1.heap.size w1 wr ∧ rs.length ≤ 17 * k ∧ Hid (rowsTo ps W k = rs)) (fun _ _ i _ => H - (intOf i).toNat)
  case atStart => exact ⟨0, [], by omega, rfl, World.ownsRow_nil _ _ _ _, rdB_nil _, Below.refl _ _, by simp, rfl⟩
  case round =>
    obtain ⟨k, rs, hk, rfl, HOWN, HAB, hb, hrs, HK⟩ := hrel
    have HX := own_any HOWN.out
    have H3r := H31.out.on hb
    have k0 := H3r.c0
    have k1 := H3r.c1
    have k2 := H3r.c2
    by_cases hlt : k < H
    · obtain ⟨lo, HLO⟩ : ∃ lo, Hid (k * W = lo) := ⟨_, (rfl : _ = _)⟩
      obtain ⟨hi2, HHI⟩ : ∃ hi, Hid ((k + 1) * W = hi) := ⟨_, (rfl : _ = _)⟩
      have hlohi : hi2 = lo + W := by rw [← HLO.out, ← HHI.out, Nat.add_mul, Nat.one_mul]
      have hhin : hi2 ≤ n := by rw [← HHI.out, HNH.out, Nat.mul_comm W H]; exact Nat.mul_le_mul_right W (by omega)
      have hm1 : (k : Int) * (W : Int) = (lo : Int) := by rw [← HLO.out]; simp
      have hm2 : ((k : Int) + 1) * (W : Int) = (hi2 : Int) := by rw [← HHI.out]; simp
      have HHW : Hid (hi2 = lo + W) := hlohi
      have hlt2 : lo < hi2 := by omega
      have hWd : hi2 - lo ≤ 8 := by omega
      clear hlohi
      have HRC : Hid (RdP wr (.slice (some ⟨g, off + lo * 2, none⟩) (hi2 - lo) (cap - lo)) ((ps.drop lo).take (hi2 - lo))) := rdP_cut (HR1.out.on hb) lo hi2 hlt2 hhin
      obtain ⟨row, HROW⟩ : ∃ row, Hid (rowOf ps W k = row) := ⟨_, (rfl : _ = _)⟩
      have HPX : Hid (flatP ((ps.drop lo).take (hi2 - lo)) = row) := by
        unfold Hid; rw [← HROW.out]; unfold rowOf; rw [HLO.out, HHW.out, show lo + W - lo = W by omega]
      have HRL : Hid (row.length = 2 * W) := by unfold Hid; rw [← HROW.out]; exact rowOf_len ps W H k HLEN.out hlt
      have HRN : Hid (row ≠ []) := by unfold Hid; intro e; have h := HRL.out; rw [e] at h; simp at h; omega
      have HOK : Hid (∀ p ∈ (ps.drop lo).take (hi2 - lo), okPix p = true) := fun p hp => HALL.out p (List.mem_of_mem_drop (List.mem_of_mem_take hp))
      have HLC : Hid (((ps.drop lo).take (hi2 - lo)).length = hi2 - lo) := by unfold Hid; rw [List.length_take, List.length_drop, HNN.out]; omega
      obtain ⟨t, HT⟩ := bytes_of (Fb.shortL row (aboveOf ps W k))
      have HTS : Hid (t.size = 1 + 2 * W) := by unfold Hid; rw [size_of HT, Fb.shortL_len, HRL.out]
      have hts : t.size ≤ 17 := by rw [HTS.out]; omega
      have HN2 : Hid (rowsTo ps W (k + 1) = rs ++ t.data.toList) := by unfold Hid; rw [rowsTo, HK.out, HROW.out, HT.out]
      have HAN : Hid (aboveOf ps W (k + 1) = row) := by unfold Hid aboveOf; rw [if_neg (by omega)]; simpa using HROW.out
      go_wp2_with fail
      refine (flatten_any _ _ wr (by rw [HLC.out]; omega) HOK HRC (by intro e; have h := HLC.out; rw [e] at h; simp at h; omega)).mono ?_
      rintro e w2 ⟨vrow, rfl, hownr, hb2⟩
      rw [HPX.out] at hownr
      have HOR : Hid (w2.ownsRow wr.heap.size 5 1 vrow row.length (row.map bv)) := hownr
      clear hownr
      go_wp2_with fail
      refine (shortest_at vrow _ row (aboveOf ps W k) w2 HRN.out (by rw [HRL.out]; omega) (rdB_own HOR.out) (HAB.out.on hb2) t HT).mono ?_
      rintro e w3 ⟨rfl, hb3⟩
      have HO3 : Hid (w3.ownsRow w1.heap.size 5 1 _ rs.length (rs.map bv)) := own_on2 (own_on2 HOWN.out hb2) hb3
      have HOR3 : Hid (w3.ownsRow wr.heap.size 5 1 vrow row.length (row.map bv)) := own_on2 HOR.out hb3
      have hbw3 : Below w1.heap.size w1 w3 := (hb.trans (hb2.mono hb.size)).trans (hb3.mono (Nat.le_trans hb.size hb2.size))
      go_wp2_with (at_builtin; refine Lib.wpList_append_own_string _ rfl _ _ 59 9 rfl w1.heap.size 5 i0 Tryd.underlying59 Tryd.underlying9 hi hz0 hz1 hz2 _ _ _ rfl HO3.out t rfl ?c1 ?c2 ?c3 ?_)
      case c1 => unfold maxLen; omega
      case c2 => omega
      case c3 => exact hbw3.size
      · intro v' w4 hown' hgrow _
        have hb4 : Below w1.heap.size w1 w4 := below_str hbw3 HO3.out hgrow
        have HO4 : Hid (w4.ownsRow w1.heap.size 5 1 v' (rs ++ t.data.toList).length ((rs ++ t.data.toList).map bv)) := by
          unfold Hid
          have e1 : Lib.strCells t = t.data.toList.map bv := rfl
          have e2 : (rs ++ t.data.toList).length = rs.length + t.size := by simp
          rw [e2, List.map_append, ← e1]; exact hown'
        have HOR4 : Hid (RdB w4 vrow row) := rdB_own (own_apart HOWN.out HOR3.out hgrow)
        have HL4 : Hid ((rs ++ t.data.toList).length ≤ 17 * (k + 1)) := by
          unfold Hid
          have htl : t.data.toList.length = t.size := by simp
          rw [List.length_append, htl]; omega
        clear hown' hgrow
        go_wp2_with fail
        go_roundw
        case rel => exact ⟨k + 1, rs ++ t.data.toList, by omega, by go_num, HO4, by rw [HAN.out]; exact HOR4, hb4, HL4.out, HN2⟩
        case measure => simp [intOf]; omega
    · have hkH : k = H := by omega
      have HRS : Hid (rowsTo ps W H = rs) := by unfold Hid; rw [← hkH]; exact HK.out
      obtain ⟨p, HP⟩ := bytes_of (Fb.packL rs)
      obtain ⟨q, HQ⟩ := bytes_of rs
      have hqs : q.size ≤ 1000 := by rw [size_of HQ]; omega
      have hps : p.size ≤ 2000 := by rw [size_of HP]; have := Fb.packL_len rs; omega
      have hst := run_str (HOWN.out.drew)
      rw [HQ.out, str_self] at hst
      have HPK : Hid (∀ X, Calls Tryd.prog 53 #[.string q] X fun e w' => e = .returned (.string p) ∧ Below X.heap.size X w') := fun X => pack_len q X (by omega) p (by unfold Hid; rw [← HQ.out]; exact HP.out)
      clear hkH
      have hw1 : IntKind.u8.wrap (W : Int) = (W : Int) := by rw [IntKind.wrap_u8]; omega
      have hw2 : IntKind.u8.wrap (H : Int) = (H : Int) := by rw [IntKind.wrap_u8]; omega
      obtain ⟨xw, HXW⟩ : ∃ x, Hid (UInt8.ofNat W = x) := ⟨_, (rfl : _ = _)⟩
      obtain ⟨xh, HXH⟩ : ∃ x, Hid (UInt8.ofNat H = x) := ⟨_, (rfl : _ = _)⟩
      have HXI : Hid ((xw.toNat : Int) = (W : Int)) := by unfold Hid; rw [← HXW.out, Fb.ofNat_toNat _ (by omega)]
      have HYI : Hid ((xh.toNat : Int) = (H : Int)) := by unfold Hid; rw [← HXH.out, Fb.ofNat_toNat _ (by omega)]
      have hcv : ∀ (X : World) (B : Nat), X.cell? ⟨B, 0, none⟩ = some (.int .u8 (W : Int)) → X.cell? ⟨B, 1, none⟩ = some (.int .u8 (H : Int)) → (convert 59 9 (.slice (some ⟨B, 0, none⟩) 2 2)).run Tryd.prog X = .ok (.string ⟨#[xw, xh]⟩) X := fun X B => run_pair2 X B (W : Int) (H : Int) xw xh HXI HYI
      have HTA := H3r.drew
      have HTB := (H3r.alloc (.cells #[.int .u8 (W : Int), .int .u8 (H : Int)] 5)).drew
      have HDU := duo_start wr (.int .u8 (W : Int)) (.int .u8 (H : Int)) 5
      have hsB := run_str (HOWN.out.alloc (.cells #[.int .u8 (W : Int), .int .u8 (H : Int)] 5)).drew
      rw [HQ.out, str_self] at hsB
      have HFIN : Hid (str (picBytes W H ps) = .string (⟨#[xw, xh]⟩ ++ p)) := by
        unfold Hid picBytes
        rw [HRS.out, HXW.out, HXH.out, HP.out, ← str_self]
        rw [ByteArray.data_append]; simp
      have hsz2 : (⟨#[xw, xh]⟩ : ByteArray).size = 2 := rfl
      have hbwr : Below w.heap.size w wr := hbw1.trans (hb.mono hbw1.size)
      have hbA : Below w.heap.size w wr.drew := hbwr.drew
      have hsA : w.heap.size ≤ wr.drew.heap.size := hbwr.size
      have hbB : Below w.heap.size w (wr.alloc (.cells #[.int .u8 (W : Int), .int .u8 (H : Int)] 5)).drew := (hbwr.alloc hbwr.size _).drew
      have hsB2 : w.heap.size ≤ (wr.alloc (.cells #[.int .u8 (W : Int), .int .u8 (H : Int)] 5)).drew.heap.size := hbB.size
      go_upto_region 12 with fail
      go_cut [2, 3] from 4 (fun s2 s3 wc => s2 = .string (⟨#[xw, xh]⟩ ++ p) ∧ s3 = .nilIface ∧ Below w.heap.size w wc)
      case first =>
        go_region_with (go_at_call 53; refine (HPK.out _).mono ?_; rintro e w4 ⟨rfl, hb4⟩; (first | (have H34 := HTA.on hb4; have hbf := hbA.trans (hb4.mono hsA)) | (have H34 := HTB.on hb4; have hbf := hbB.trans (hb4.mono hsB2); have HD4 := HDU.on hb4; obtain ⟨e0, e1, _⟩ := HD4)); obtain ⟨q0, q1, q2, _, _, _, _⟩ := H34)
        all_goals (go_wp2_with fail; go_meet)
        all_goals first | exact ⟨rfl, rfl, hbf⟩ | exact ⟨rfl, rfl, hbf.alloc hbf.size _⟩
      case rest =>
        obtain ⟨rfl, rfl, hbc⟩ := hcut
        go_wp2_with fail
        go_ret2
        exact ⟨ret2 HFIN.out.symm rfl, hbc⟩
end Go.Proofs.YtfhfedcamcpceaaDoor
