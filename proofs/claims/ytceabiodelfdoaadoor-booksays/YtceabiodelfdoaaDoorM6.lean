/- Some of the walks, in one text. -/
import Derived.Test.YtceabiodelfdoaaDoorM5
import Derived.Lib.Strings
import Derived.Lib.AppendStr
import Derived.Maps.Own
import Derived.Maps.Views
import Derived.Maps.OwnOps
import Derived.Maps.RangeWalk
import Derived.Maps.OwnSet
import Derived.Sort.KeysCollected
import Derived.Maps.AppendAt
/- Walk of picture.shortest. -/
namespace Go.Proofs.YtceabiodelfdoaaDoor
open Go.RowKit

set_option maxRecDepth 100000 in
theorem run_one1 (W : World) (B : Nat) (a : Int) (x : UInt8) (ha : Hid ((x.toNat : Int) = a)) (hc : W.cell? ⟨B, 0, none⟩ = some (.int .u8 a)) :
    (convert 51 9 (.slice (some ⟨B, 0, none⟩) 1 1)).run Tryd.prog W = .ok (.string ⟨#[x]⟩) W := by
  refine run_convert_bytes_back _ 51 9 5 ⟨B, 0, none⟩ 1 [x] Tryd.underlying51 Tryd.underlying5 Tryd.underlying9 ?_
  intro j hj
  match j, hj with
  | 0, _ => rw [← ha.out] at hc; simpa [Addr.add] using hc

set_option maxRecDepth 100000 in
theorem tell_at (way : Nat) (hway : way < 4) (v u : Value) (row ab : List UInt8) (w : World) (hne : row ≠ []) (hlen : row.length ≤ 1000) (HR : RdB w v row) (HA : RdB w u ab) (t : ByteArray) (HT : Hid (Fb.tellL way row ab = t.data.toList)) :
    Calls Tryd.prog 83 #[.int .i64 (way : Int), v, u] w fun e w' => e = .returned (.string t) ∧ Below w.heap.size w w' := by
  have h := tell_any way hway v u row ab w hne hlen HR HA
  rw [HT.out, str_self] at h
  exact h
set_option maxRecDepth 100000 in
theorem pack_len (s : ByteArray) (w : World) (hs : s.size ≤ 1000000) (t : ByteArray) (HT : Hid (Fb.packL s.data.toList = t.data.toList)) :
    Calls Tryd.prog 77 #[.string s] w fun e w' => e = .returned (.string t) ∧ Below w.heap.size w w' := by
  have h := pack_any s w hs
  rw [HT.out, str_self] at h
  exact h

set_option maxRecDepth 100000 in
theorem bytes_of (l : List UInt8) : ∃ t : ByteArray, Hid (l = t.data.toList) := ⟨⟨l.toArray⟩, by unfold Hid; simp⟩
set_option maxRecDepth 100000 in
theorem size_of {l : List UInt8} {t : ByteArray} (h : Hid (l = t.data.toList)) : t.size = l.length := by rw [h.out]; simp

set_option maxRecDepth 100000 in
theorem cons_data (x : UInt8) (t : ByteArray) : ((⟨#[x]⟩ : ByteArray) ++ t).data.toList = x :: t.data.toList := by
  rw [ByteArray.data_append]; simp

set_option maxRecDepth 100000 in
theorem best_step (row ab : List UInt8) (k : Nat) : Fb.bestTo row ab (k + 1) = if (Fb.packL (Fb.tellL k row ab)).length < (Fb.packL (Fb.tellL (Fb.bestTo row ab k) row ab)).length ∧ k ≠ 0 then k else Fb.bestTo row ab k := rfl

set_option maxHeartbeats 2000000 in
set_option maxRecDepth 100000 in
theorem shortest_any (v u : Value) (row ab : List UInt8) (w : World) (hne : row ≠ []) (hlen : row.length ≤ 1000) (HR : Hid (RdB w v row)) (HA : Hid (RdB w u ab)) :
    Calls Tryd.prog 76 #[v, u] w fun e w' => e = .returned (str (Fb.shortL row ab)) ∧ Below w.heap.size w w' := by
  have HVS : Hid (∃ a c, v = .slice a row.length c) := by obtain ⟨a, c, h, _⟩ := HR.out; exact ⟨a, c, h⟩
  have HUS : Hid (∃ a c, u = .slice a ab.length c) := by obtain ⟨a, c, h, _⟩ := HA.out; exact ⟨a, c, h⟩
  go_enter Tryd.func76, Tryd.ntmps76
  go_wp2_with fail
  go_loopw [5, 6, 10] (fun x y i wr => ∃ (k f : Nat) (best : ByteArray), k ≤ 4 ∧ i = .int .i64 k ∧ x = .string best ∧ y = .int .i64 f ∧ f ≤ 100000 ∧ best.size ≤ 2000 ∧ Below w.heap.size w wr ∧ Hid (k = 0 → best = ⟨#[]⟩) ∧ Hid (0 < k → best.data.toList = UInt8.ofNat (Fb.bestTo row ab k) :: Fb.tellL (Fb.bestTo row ab k) row ab ∧ f = (Fb.packL (Fb.tellL (Fb.bestTo row ab k) row ab)).length)) (fun _ _ i _ => 4 - (intOf i).toNat)
  case atStart => exact ⟨0, 0, ⟨#[]⟩, by omega, rfl, rfl, rfl, by omega, by decide, Below.refl _ _, (fun _ => rfl), (fun h => by omega)⟩
  case round =>
    obtain ⟨k, f, best, hk, rfl, rfl, rfl, hf, hbs, hb, HK0, HK1⟩ := hrel
    by_cases hlt : k < 4
    · obtain ⟨t, HT⟩ := bytes_of (Fb.tellL k row ab)
      have hts : t.size ≤ 1000 := by rw [size_of HT]; unfold Fb.tellL; rw [Fb.tellTo_len]; omega
      obtain ⟨p, HP⟩ := bytes_of (Fb.packL t.data.toList)
      have hps : p.size ≤ 2000 := by rw [size_of HP]; have := Fb.packL_len t.data.toList; have h2 : t.data.toList.length = t.size := by simp
                                     omega
      have HPL : Hid ((Fb.packL (Fb.tellL k row ab)).length = p.size) := by unfold Hid; rw [size_of HP, HT.out]
      obtain ⟨nb, HNB⟩ : ∃ nb, Hid (UInt8.ofNat k = nb) := ⟨_, (rfl : _ = _)⟩
      have HNI : Hid ((nb.toNat : Int) = (k : Int)) := by unfold Hid; rw [← HNB.out, Fb.ofNat_toNat _ (by omega)]
      go_wp2_with fail
      refine (tell_at k hlt v u row ab _ hne hlen (HR.out.on hb) (HA.out.on hb) t HT).mono ?_
      rintro e w1 ⟨rfl, hb1⟩
      go_wp2_with fail
      refine (pack_len t _ (by omega) p HP).mono ?_
      rintro e w2 ⟨rfl, hb2⟩
      have hbb : Below w.heap.size w w2 := (hb.trans (hb1.mono hb.size)).trans (hb2.mono (Nat.le_trans hb.size hb1.size))
      have hcv := run_one1 (w2.alloc (.cells #[.int .u8 (k : Int)] 5)) w2.heap.size (k : Int) nb HNI (by simp)
      have HSZ : Hid (((⟨#[nb]⟩ : ByteArray) ++ t).size ≤ 2000) := by unfold Hid; rw [ByteArray.size_append]; show 1 + t.size ≤ 2000; omega
      have HDT : Hid (((⟨#[nb]⟩ : ByteArray) ++ t).data.toList = UInt8.ofNat k :: Fb.tellL k row ab) := by unfold Hid; rw [cons_data, HNB.out, HT.out]
      by_cases hk0 : k = 0
      · have hbe : best = ⟨#[]⟩ := HK0.out hk0
        subst hbe
        subst hk0
        have HB0 : Hid (Fb.bestTo row ab 1 = 0) := by unfold Hid; rw [best_step]; simp [Fb.bestTo]
        have hcv0 := run_one1 (w2.alloc (.cells #[.int .u8 0] 5)) w2.heap.size 0 nb HNI (by simp)
        clear hcv
        go_wp2_with fail
        go_roundw
        case rel => exact ⟨1, p.size, ⟨#[nb]⟩ ++ t, by omega, rfl, rfl, rfl, by omega, HSZ.out, hbb.alloc hbb.size _, (by unfold Hid; intro h; omega), (fun _ => by rw [HB0.out]; exact ⟨HDT.out, HPL.out.symm⟩)⟩
        case measure => simp [intOf]
      · have h1 := HK1.out (by omega)
        have hbn : ¬ best.toList = [] := by rw [Lib.toList_data, h1.1]; simp
        have hbn2 : best.toList.isEmpty = false := by simp [hbn]
        have hbn3 : (best.toList == []) = false := by simp [hbn]
        have hbn4 : decide (best.toList = []) = false := by simp [hbn]
        have hfe := h1.2
        by_cases hless : p.size < f
        · have HB : Hid (Fb.bestTo row ab (k + 1) = k) := by unfold Hid; rw [best_step, if_pos]; exact ⟨by rw [HPL.out, ← hfe]; exact hless, hk0⟩
          clear h1 hfe
          go_wp2_with fail
          go_roundw
          case rel => exact ⟨k + 1, p.size, ⟨#[nb]⟩ ++ t, by omega, by go_num, rfl, rfl, by omega, HSZ.out, hbb.alloc hbb.size _, (by unfold Hid; intro h; omega), (fun _ => by rw [HB.out]; exact ⟨HDT.out, HPL.out.symm⟩)⟩
          case measure => simp [intOf]; omega
        · have HB : Hid (Fb.bestTo row ab (k + 1) = Fb.bestTo row ab k) := by unfold Hid; rw [best_step, if_neg]; rw [HPL.out, ← hfe]; intro h; exact hless h.1
          clear h1 hfe
          go_wp2_with fail
          go_roundw
          case rel => exact ⟨k + 1, f, best, by omega, by go_num, rfl, rfl, hf, hbs, hbb, (by unfold Hid; intro h; omega), (fun _ => by rw [HB.out]; exact HK1.out (by omega))⟩
          case measure => simp [intOf]; omega
    · have hk4 : k = 4 := by omega
      subst hk4
      have h1 := HK1.out (by omega)
      have HE : Hid (str (Fb.shortL row ab) = .string best) := by unfold Hid Fb.shortL Fb.bestW; rw [← h1.1, str_self]
      clear h1
      go_wp2_with fail
      go_ret
      exact ⟨by rw [HE.out]; rfl, hb⟩
end Go.Proofs.YtceabiodelfdoaaDoor
/- Walk of picture.Bytes. -/
namespace Go.Proofs.YtceabiodelfdoaaDoor
open Go.RowKit

/-- the bytes of row j -/
def rowOf (ps : List (Int × Int)) (W j : Nat) : List UInt8 := flatP ((ps.drop (j * W)).take W)
def aboveOf (ps : List (Int × Int)) (W j : Nat) : List UInt8 := if j = 0 then [] else rowOf ps W (j - 1)
/-- what is told of the first k rows -/
def rowsTo (ps : List (Int × Int)) (W : Nat) : Nat → List UInt8
  | 0 => []
  | k + 1 => rowsTo ps W k ++ Fb.shortL (rowOf ps W k) (aboveOf ps W k)
def picBytes (W H : Nat) (ps : List (Int × Int)) : List UInt8 := UInt8.ofNat W :: UInt8.ofNat H :: Fb.packL (rowsTo ps W H)

set_option maxRecDepth 100000 in
theorem rowOf_len (ps : List (Int × Int)) (W H j : Nat) (hl : ps.length = W * H) (hj : j < H) : (rowOf ps W j).length = 2 * W := by
  unfold rowOf
  rw [flatP_len, List.length_take, List.length_drop, hl]
  have h1 : (j + 1) * W ≤ H * W := Nat.mul_le_mul_right W (by omega)
  have h2 : (j + 1) * W = j * W + W := by rw [Nat.add_mul, Nat.one_mul]
  have h3 : W * H = H * W := Nat.mul_comm _ _
  omega

set_option maxRecDepth 100000 in
theorem rowsTo_len (ps : List (Int × Int)) (W H : Nat) (hl : ps.length = W * H) : ∀ k, k ≤ H → (rowsTo ps W k).length = k * (1 + 2 * W)
  | 0, _ => by simp [rowsTo]
  | k + 1, hk => by
    have ih := rowsTo_len ps W H hl k (by omega)
    simp only [rowsTo, List.length_append, ih, Fb.shortL_len, rowOf_len ps W H k hl (by omega)]
    rw [Nat.add_mul]; omega

set_option maxRecDepth 100000 in
/-- rows k of the pixels, as a slice -/
theorem rdP_cut {w : World} {g off n cap : Nat} {ps : List (Int × Int)} (h : RdP w (.slice (some ⟨g, off, none⟩) n cap) ps) (lo hi : Nat) (h1 : lo < hi) (h2 : hi ≤ n) :
    RdP w (.slice (some ⟨g, off + lo * 2, none⟩) (hi - lo) (cap - lo)) ((ps.drop lo).take (hi - lo)) := by
  obtain ⟨a, c, hv, hl, hc, hh⟩ := h
  simp only [Value.slice.injEq] at hv
  obtain ⟨rfl, rfl, rfl⟩ := hv
  have hlen : ((ps.drop lo).take (hi - lo)).length = hi - lo := by rw [List.length_take, List.length_drop]; omega
  refine ⟨_, _, by rw [hlen], by rw [hlen]; omega, by omega, fun _ => ?_⟩
  obtain ⟨g', off', ha, hg, hcell⟩ := hh (by intro e; rw [e] at h2; simp at h2; omega)
  simp only [Option.some.injEq, Addr.mk.injEq, and_true] at ha
  obtain ⟨rfl, rfl⟩ := ha
  refine ⟨g, off + lo * 2, rfl, hg, fun j hj => ?_⟩
  rw [hlen] at hj
  have := hcell (lo + j) (by omega)
  have e : ((ps.drop lo).take (hi - lo)).getD j (0, 0) = ps.getD (lo + j) (0, 0) := by
    rw [List.getD_eq_getElem?_getD, List.getElem?_take, if_pos hj, List.getElem?_drop, ← List.getD_eq_getElem?_getD]
  rw [e]
  rw [show off + (lo + j) * 2 = off + lo * 2 + j * 2 by omega] at this
  exact this

set_option maxRecDepth 100000 in
theorem shortest_at (v u : Value) (row ab : List UInt8) (w : World) (hne : row ≠ []) (hlen : row.length ≤ 1000) (HR : RdB w v row) (HA : RdB w u ab) (t : ByteArray) (HT : Hid (Fb.shortL row ab = t.data.toList)) :
    Calls Tryd.prog 76 #[v, u] w fun e w' => e = .returned (.string t) ∧ Below w.heap.size w w' := by
  have h := shortest_any v u row ab w hne hlen HR HA
  rw [HT.out, str_self] at h
  exact h

set_option maxRecDepth 100000 in
theorem run_pair2 (X : World) (B : Nat) (a b : Int) (x y : UInt8) (ha : Hid ((x.toNat : Int) = a)) (hb : Hid ((y.toNat : Int) = b)) (h0 : X.cell? ⟨B, 0, none⟩ = some (.int .u8 a)) (h1 : X.cell? ⟨B, 1, none⟩ = some (.int .u8 b)) :
    (convert 51 9 (.slice (some ⟨B, 0, none⟩) 2 2)).run Tryd.prog X = .ok (.string ⟨#[x, y]⟩) X := by
  refine run_convert_bytes_back _ 51 9 5 ⟨B, 0, none⟩ 2 [x, y] Tryd.underlying51 Tryd.underlying5 Tryd.underlying9 ?_
  intro j hj
  match j, hj with
  | 0, _ => rw [← ha.out] at h0; simpa [Addr.add] using h0
  | 1, _ => rw [← hb.out] at h1; simpa [Addr.add] using h1

set_option maxRecDepth 100000 in
theorem check_ok {W H : Int} {ps : List (Int × Int)} (h : checkL W H ps = 0) : 1 ≤ W ∧ W ≤ 8 ∧ 1 ≤ H ∧ H ≤ 8 ∧ (ps.length : Int) = W * H ∧ ∀ p ∈ ps, okPix p = true := by
  unfold checkL at h
  split at h
  · simp at h
  · rename_i h1
    split at h
    · simp at h
    · rename_i h2
      split at h
      · rename_i h3
        have hw : sideB W = true := by cases hh : sideB W with | true => rfl | false => exact absurd (.inl hh) h1
        have hh : sideB H = true := by cases hh : sideB H with | true => rfl | false => exact absurd (.inr hh) h1
        unfold sideB at hw hh
        simp at hw hh
        refine ⟨hw.1, hw.2, hh.1, hh.2, by omega, fun p hp => List.all_eq_true.1 h3 p hp⟩
      · simp at h

set_option maxRecDepth 100000 in
theorem pow_slice {w : World} {v : Value} {ps : List (Int × Int)} (h : RdP w v ps) : ∃ a c, v = .slice a ps.length c := by obtain ⟨a, c, hv, _⟩ := h; exact ⟨a, c, hv⟩

set_option maxHeartbeats 4000000 in
set_option maxRecDepth 100000 in
theorem picBytes_ok (W H : Nat) (v : Value) (ps : List (Int × Int)) (w : World) (HR : Hid (RdP w v ps)) (HC : Hid (checkL (W : Int) (H : Int) ps = 0)) :
    Calls Tryd.prog 56 #[.agg #[.int .i64 (W : Int), .int .i64 (H : Int), v]] w fun e w' => e = .returned (.tuple #[str (picBytes W H ps), .nilIface]) ∧ Below w.heap.size w w' := by
  obtain ⟨i0, hi, hz0, hz1, hz2⟩ := info_parts Tryd.infoByte
  obtain ⟨hW1, hW8, hH1, hH8, hlen, hall⟩ := check_ok HC.out
  have HALL : Hid (∀ p ∈ ps, okPix p = true) := hall
  have HLEN : Hid (ps.length = W * H) := by
    unfold Hid
    have h : ((W * H : Nat) : Int) = (W : Int) * (H : Int) := by simp
    omega
  clear hlen hall
  obtain ⟨n, HNN⟩ : ∃ n, Hid (ps.length = n) := ⟨_, (rfl : _ = _)⟩
  have hn64 : n ≤ 64 := by rw [← HNN.out, HLEN.out]; have := Nat.mul_le_mul (show W ≤ 8 by omega) (show H ≤ 8 by omega); omega
  have hnH : n = W * H := by rw [← HNN.out, HLEN.out]
  have HNH : Hid (n = W * H) := hnH
  have hpne : ps ≠ [] := by
    intro e; have h := HLEN.out; rw [e] at h
    have := Nat.mul_le_mul (show 1 ≤ W by omega) (show 1 ≤ H by omega)
    simp at h; omega
  obtain ⟨a, cap, hv, hlc, hcap, hh⟩ := HR.out
  obtain ⟨g, off, rfl, hg, hcell⟩ := hh hpne
  clear hcell hh hnH
  rw [HNN.out] at hv hlc
  subst hv
  have H3 := three_start w (.int .i64 (W : Int)) (.int .i64 (H : Int)) (.slice (some ⟨g, off, none⟩) n cap) 43
  obtain ⟨w0, HW0⟩ : ∃ w0, Hid (w.alloc (.cells #[.int .i64 (W : Int), .int .i64 (H : Int), .slice (some ⟨g, off, none⟩) n cap] 43) = w0) := ⟨_, (rfl : _ = _)⟩
  have hb0 : Below w.heap.size w w0 := by rw [← HW0.out]; exact (Below.refl _ _).alloc (Nat.le_refl _) _
  have HR0 : Hid (RdP w0 (.slice (some ⟨g, off, none⟩) n cap) ps) := HR.out.on hb0
  rw [HW0.out] at H3
  have H3H : Hid (Three w0 w.heap.size (.int .i64 (W : Int)) (.int .i64 (H : Int)) (.slice (some ⟨g, off, none⟩) n cap)) := H3
  clear H3
  go_enter Tryd.func56, Tryd.ntmps56
  go_wp2_with fail
  rw [HW0.out]
  refine (check_any (W : Int) (H : Int) (.slice (some ⟨g, off, none⟩) n cap) ps w0 (by rw [HNN.out]; omega) HR0 0 HC).mono ?_
  rintro e w1 ⟨rfl, hb1⟩
  rw [errV0]
  have H31 : Hid (Three w1 w.heap.size (.int .i64 (W : Int)) (.int .i64 (H : Int)) (.slice (some ⟨g, off, none⟩) n cap)) := H3H.out.on hb1
  have HR1 : Hid (RdP w1 (.slice (some ⟨g, off, none⟩) n cap) ps) := HR0.out.on hb1
  have hbw1 : Below w.heap.size w w1 := hb0.trans (hb1.mono hb0.size)
  have k1 := H31.out.c1
  go_wp2_with fail
  clear k1
  go_loopw [5, 6, 16] (fun x u i wr => ∃ (k : Nat) (rs : List UInt8), k ≤ H ∧ i = .int .i64 k ∧ Hid (wr.ownsRow w1.heap.size 5 1 x rs.length (rs.map bv)) ∧ Hid (RdB wr u (aboveOf ps W k)) ∧ Below w1.heap.size w1 wr ∧ rs.length ≤ 17 * k ∧ Hid (rowsTo ps W k = rs)) (fun _ _ i _ => H - (intOf i).toNat)
  case atStart => exact ⟨0, [], by omega, rfl, World.ownsRow_nil _ _ _ _, rdB_nil _, Below.refl _ _, by simp, rfl⟩
  case round =>
    obtain ⟨k, rs, hk, rfl, HOWN, HAB, hb, hrs, HK⟩ := hrel
    have HX := own_any HOWN.out
    have H3r := H31.out.on hb
    have k0 := H3r.c0
    have k1 := H3r.c1
    have k2 := H3r.c2
    by_cases hlt : k < H
    · obtain ⟨lo, HLO⟩ : ∃ lo, Hid (k * W = lo) := ⟨_, (rfl : _ = _)⟩
      obtain ⟨hi2, HHI⟩ : ∃ hi, Hid ((k + 1) * W = hi) := ⟨_, (rfl : _ = _)⟩
      have hlohi : hi2 = lo + W := by rw [← HLO.out, ← HHI.out, Nat.add_mul, Nat.one_mul]
      have hhin : hi2 ≤ n := by rw [← HHI.out, HNH.out, Nat.mul_comm W H]; exact Nat.mul_le_mul_right W (by omega)
      have hm1 : (k : Int) * (W : Int) = (lo : Int) := by rw [← HLO.out]; simp
      have hm2 : ((k : Int) + 1) * (W : Int) = (hi2 : Int) := by rw [← HHI.out]; simp
      have HHW : Hid (hi2 = lo + W) := hlohi
      have hlt2 : lo < hi2 := by omega
      have hWd : hi2 - lo ≤ 8 := by omega
      clear hlohi
      have HRC : Hid (RdP wr (.slice (some ⟨g, off + lo * 2, none⟩) (hi2 - lo) (cap - lo)) ((ps.drop lo).take (hi2 - lo))) := rdP_cut (HR1.out.on hb) lo hi2 hlt2 hhin
      obtain ⟨row, HROW⟩ : ∃ row, Hid (rowOf ps W k = row) := ⟨_, (rfl : _ = _)⟩
      have HPX : Hid (flatP ((ps.drop lo).take (hi2 - lo)) = row) := by
        unfold Hid; rw [← HROW.out]; unfold rowOf; rw [HLO.out, HHW.out, show lo + W - lo = W by omega]
      have HRL : Hid (row.length = 2 * W) := by unfold Hid; rw [← HROW.out]; exact rowOf_len ps W H k HLEN.out hlt
      have HRN : Hid (row ≠ []) := by unfold Hid; intro e; have h := HRL.out; rw [e] at h; simp at h; omega
      have HOK : Hid (∀ p ∈ (ps.drop lo).take (hi2 - lo), okPix p = true) := fun p hp => HALL.out p (List.mem_of_mem_drop (List.mem_of_mem_take hp))
      have HLC : Hid (((ps.drop lo).take (hi2 - lo)).length = hi2 - lo) := by unfold Hid; rw [List.length_take, List.length_drop, HNN.out]; omega
      obtain ⟨t, HT⟩ := bytes_of (Fb.shortL row (aboveOf ps W k))
      have HTS : Hid (t.size = 1 + 2 * W) := by unfold Hid; rw [size_of HT, Fb.shortL_len, HRL.out]
      have hts : t.size ≤ 17 := by rw [HTS.out]; omega
      have HN2 : Hid (rowsTo ps W (k + 1) = rs ++ t.data.toList) := by unfold Hid; rw [rowsTo, HK.out, HROW.out, HT.out]
      have HAN : Hid (aboveOf ps W (k + 1) = row) := by unfold Hid aboveOf; rw [if_neg (by omega)]; simpa using HROW.out
      go_wp2_with fail
      refine (flatten_any _ _ wr (by rw [HLC.out]; omega) HOK HRC (by intro e; have h := HLC.out; rw [e] at h; simp at h; omega)).mono ?_
      rintro e w2 ⟨vrow, rfl, hownr, hb2⟩
      rw [HPX.out] at hownr
      have HOR : Hid (w2.ownsRow wr.heap.size 5 1 vrow row.length (row.map bv)) := hownr
      clear hownr
      go_wp2_with fail
      refine (shortest_at vrow _ row (aboveOf ps W k) w2 HRN.out (by rw [HRL.out]; omega) (rdB_own HOR.out) (HAB.out.on hb2) t HT).mono ?_
      rintro e w3 ⟨rfl, hb3⟩
      have HO3 : Hid (w3.ownsRow w1.heap.size 5 1 _ rs.length (rs.map bv)) := own_on2 (own_on2 HOWN.out hb2) hb3
      have HOR3 : Hid (w3.ownsRow wr.heap.size 5 1 vrow row.length (row.map bv)) := own_on2 HOR.out hb3
      have hbw3 : Below w1.heap.size w1 w3 := (hb.trans (hb2.mono hb.size)).trans (hb3.mono (Nat.le_trans hb.size hb2.size))
      go_wp2_with (at_builtin; refine Lib.wpList_append_own_string _ rfl _ _ 51 9 rfl w1.heap.size 5 i0 Tryd.underlying51 Tryd.underlying9 hi hz0 hz1 hz2 _ _ _ rfl HO3.out t rfl ?c1 ?c2 ?c3 ?_)
      case c1 => unfold maxLen; omega
      case c2 => omega
      case c3 => exact hbw3.size
      · intro v' w4 hown' hgrow _
        have hb4 : Below w1.heap.size w1 w4 := below_str hbw3 HO3.out hgrow
        have HO4 : Hid (w4.ownsRow w1.heap.size 5 1 v' (rs ++ t.data.toList).length ((rs ++ t.data.toList).map bv)) := by
          unfold Hid
          have e1 : Lib.strCells t = t.data.toList.map bv := rfl
          have e2 : (rs ++ t.data.toList).length = rs.length + t.size := by simp
          rw [e2, List.map_append, ← e1]; exact hown'
        have HOR4 : Hid (RdB w4 vrow row) := rdB_own (own_apart HOWN.out HOR3.out hgrow)
        have HL4 : Hid ((rs ++ t.data.toList).length ≤ 17 * (k + 1)) := by
          unfold Hid
          have htl : t.data.toList.length = t.size := by simp
          rw [List.length_append, htl]; omega
        clear hown' hgrow
        go_wp2_with fail
        go_roundw
        case rel => exact ⟨k + 1, rs ++ t.data.toList, by omega, by go_num, HO4, by rw [HAN.out]; exact HOR4, hb4, HL4.out, HN2⟩
        case measure => simp [intOf]; omega
    · have hkH : k = H := by omega
      have HRS : Hid (rowsTo ps W H = rs) := by unfold Hid; rw [← hkH]; exact HK.out
      obtain ⟨p, HP⟩ := bytes_of (Fb.packL rs)
      obtain ⟨q, HQ⟩ := bytes_of rs
      have hqs : q.size ≤ 1000 := by rw [size_of HQ]; omega
      have hps : p.size ≤ 2000 := by rw [size_of HP]; have := Fb.packL_len rs; omega
      have hst := run_str (HOWN.out.drew)
      rw [HQ.out, str_self] at hst
      have HPK : Hid (∀ X, Calls Tryd.prog 77 #[.string q] X fun e w' => e = .returned (.string p) ∧ Below X.heap.size X w') := fun X => pack_len q X (by omega) p (by unfold Hid; rw [← HQ.out]; exact HP.out)
      clear hkH
      have hw1 : IntKind.u8.wrap (W : Int) = (W : Int) := by rw [IntKind.wrap_u8]; omega
      have hw2 : IntKind.u8.wrap (H : Int) = (H : Int) := by rw [IntKind.wrap_u8]; omega
      obtain ⟨xw, HXW⟩ : ∃ x, Hid (UInt8.ofNat W = x) := ⟨_, (rfl : _ = _)⟩
      obtain ⟨xh, HXH⟩ : ∃ x, Hid (UInt8.ofNat H = x) := ⟨_, (rfl : _ = _)⟩
      have HXI : Hid ((xw.toNat : Int) = (W : Int)) := by unfold Hid; rw [← HXW.out, Fb.ofNat_toNat _ (by omega)]
      have HYI : Hid ((xh.toNat : Int) = (H : Int)) := by unfold Hid; rw [← HXH.out, Fb.ofNat_toNat _ (by omega)]
      have hcv : ∀ (X : World) (B : Nat), X.cell? ⟨B, 0, none⟩ = some (.int .u8 (W : Int)) → X.cell? ⟨B, 1, none⟩ = some (.int .u8 (H : Int)) → (convert 51 9 (.slice (some ⟨B, 0, none⟩) 2 2)).run Tryd.prog X = .ok (.string ⟨#[xw, xh]⟩) X := fun X B => run_pair2 X B (W : Int) (H : Int) xw xh HXI HYI
      have HTA := H3r.drew
      have HTB := (H3r.alloc (.cells #[.int .u8 (W : Int), .int .u8 (H : Int)] 5)).drew
      have HDU := duo_start wr (.int .u8 (W : Int)) (.int .u8 (H : Int)) 5
      have hsB := run_str (HOWN.out.alloc (.cells #[.int .u8 (W : Int), .int .u8 (H : Int)] 5)).drew
      rw [HQ.out, str_self] at hsB
      have HFIN : Hid (str (picBytes W H ps) = .string (⟨#[xw, xh]⟩ ++ p)) := by
        unfold Hid picBytes
        rw [HRS.out, HXW.out, HXH.out, HP.out, ← str_self]
        rw [ByteArray.data_append]; simp
      have hsz2 : (⟨#[xw, xh]⟩ : ByteArray).size = 2 := rfl
      have hbwr : Below w.heap.size w wr := hbw1.trans (hb.mono hbw1.size)
      have hbA : Below w.heap.size w wr.drew := hbwr.drew
      have hsA : w.heap.size ≤ wr.drew.heap.size := hbwr.size
      have hbB : Below w.heap.size w (wr.alloc (.cells #[.int .u8 (W : Int), .int .u8 (H : Int)] 5)).drew := (hbwr.alloc hbwr.size _).drew
      have hsB2 : w.heap.size ≤ (wr.alloc (.cells #[.int .u8 (W : Int), .int .u8 (H : Int)] 5)).drew.heap.size := hbB.size
      go_upto_region 12 with fail
      go_cut [2, 3] from 4 (fun s2 s3 wc => s2 = .string (⟨#[xw, xh]⟩ ++ p) ∧ s3 = .nilIface ∧ Below w.heap.size w wc)
      case first =>
        go_region_with (go_at_call 77; refine (HPK.out _).mono ?_; rintro e w4 ⟨rfl, hb4⟩; (first | (have H34 := HTA.on hb4; have hbf := hbA.trans (hb4.mono hsA)) | (have H34 := HTB.on hb4; have hbf := hbB.trans (hb4.mono hsB2); have HD4 := HDU.on hb4; obtain ⟨e0, e1, _⟩ := HD4)); obtain ⟨q0, q1, q2, _, _, _, _⟩ := H34)
        all_goals (go_wp2_with fail; go_meet)
        all_goals first | exact ⟨rfl, rfl, hbf⟩ | exact ⟨rfl, rfl, hbf.alloc hbf.size _⟩
      case rest =>
        obtain ⟨rfl, rfl, hbc⟩ := hcut
        go_wp2_with fail
        go_ret2
        exact ⟨ret2 HFIN.out.symm rfl, hbc⟩
end Go.Proofs.YtceabiodelfdoaaDoor
/- What Bytes tells, Parse reads. -/
namespace Go.Proofs.YtceabiodelfdoaaDoor
open Go.RowKit

set_option maxRecDepth 100000 in
theorem ofNat_small (n : Nat) (h : n < 256) : (UInt8.ofNat n).toNat = n := by rw [UInt8.toNat_ofNat']; omega

set_option maxRecDepth 100000 in
theorem okPix_bounds {p : Int × Int} (h : okPix p = true) : 0 ≤ p.1 ∧ p.1 ≤ 255 ∧ 0 ≤ p.2 ∧ p.2 ≤ 255 := by
  unfold okPix shadeB at h; simp at h; omega

set_option maxRecDepth 100000 in
theorem pixOf_flatP : ∀ (ps : List (Int × Int)), (∀ p ∈ ps, okPix p = true) → pixOf (flatP ps) = ps
  | [], _ => rfl
  | (v, a) :: r, h => by
    have hb := okPix_bounds (h (v, a) (by simp))
    simp only at hb
    rw [flatP, pixOf, pixOf_flatP r (fun p hp => h p (by simp [hp])), ofNat_small _ (by omega), ofNat_small _ (by omega)]
    rw [show ((v.toNat : Nat) : Int) = v by omega, show ((a.toNat : Nat) : Int) = a by omega]

set_option maxRecDepth 100000 in
theorem rowsTo_split (ps : List (Int × Int)) (W k : Nat) : ∀ d, ∃ tail, rowsTo ps W (k + 1 + d) = rowsTo ps W k ++ (Fb.shortL (rowOf ps W k) (aboveOf ps W k) ++ tail)
  | 0 => ⟨[], by simp [rowsTo]⟩
  | d + 1 => by
    obtain ⟨t, ht⟩ := rowsTo_split ps W k d
    refine ⟨t ++ Fb.shortL (rowOf ps W (k + 1 + d)) (aboveOf ps W (k + 1 + d)), ?_⟩
    rw [show k + 1 + (d + 1) = (k + 1 + d) + 1 by omega, rowsTo, ht]
    simp

set_option maxRecDepth 100000 in
theorem getD_mid (a b : List UInt8) (x : UInt8) : (a ++ (x :: b)).getD a.length 0 = x := by simp
set_option maxRecDepth 100000 in
theorem drop_mid (a b : List UInt8) (x : UInt8) : (a ++ (x :: b)).drop (a.length + 1) = b := by
  rw [← List.drop_drop, List.drop_left]; rfl

set_option maxRecDepth 100000 in
theorem above_next (ps : List (Int × Int)) (W k : Nat) : aboveOf ps W (k + 1) = rowOf ps W k := by unfold aboveOf; simp

set_option maxRecDepth 100000 in
theorem parse_rows (ps : List (Int × Int)) (W H : Nat) (hl : ps.length = W * H) (hok : ∀ p ∈ ps, okPix p = true) :
    ∀ f k, k + f = H → parseRows (rowsTo ps W H) W f k (aboveOf ps W k) = ((ps.drop (k * W)).take (f * W), 0)
  | 0, k, _ => by simp [parseRows]
  | f + 1, k, h => by
    obtain ⟨tail, ht⟩ := rowsTo_split ps W k f
    rw [show k + 1 + f = H by omega] at ht
    have hlen := rowsTo_len ps W H hl k (by omega)
    have hrl := rowOf_len ps W H k hl (by omega)
    have hb := Fb.bestW_lt (rowOf ps W k) (aboveOf ps W k)
    have h1 : ((rowsTo ps W H).getD (k * (1 + 2 * W)) 0).toNat = Fb.bestW (rowOf ps W k) (aboveOf ps W k) := by
      rw [ht, ← hlen, Fb.shortL, List.cons_append, getD_mid, ofNat_small _ (by omega)]
    have h2 : ((rowsTo ps W H).drop (k * (1 + 2 * W) + 1)).take (2 * W) = Fb.tellL (Fb.bestW (rowOf ps W k) (aboveOf ps W k)) (rowOf ps W k) (aboveOf ps W k) := by
      rw [ht, ← hlen, Fb.shortL, List.cons_append, drop_mid]
      refine List.take_left' ?_
      unfold Fb.tellL; rw [Fb.tellTo_len, hrl]
    have ih := parse_rows ps W H hl hok f (k + 1) (by omega)
    rw [above_next] at ih
    rw [parseRows, h1, h2, Fb.restL_tellL, ih, if_neg (by omega), if_neg (by simp)]
    have hp : pixOf (rowOf ps W k) = (ps.drop (k * W)).take W := by
      unfold rowOf
      exact pixOf_flatP _ (fun p hp => hok p (List.mem_of_mem_drop (List.mem_of_mem_take hp)))
    rw [hp]
    refine Prod.ext ?_ rfl
    show (ps.drop (k * W)).take W ++ (ps.drop ((k + 1) * W)).take (f * W) = (ps.drop (k * W)).take ((f + 1) * W)
    rw [show (f + 1) * W = W + f * W by rw [Nat.add_mul]; omega, List.take_add, List.drop_drop, show (k + 1) * W = k * W + W by rw [Nat.add_mul]; omega]

set_option maxRecDepth 100000 in
theorem parse_picBytes (W H : Nat) (ps : List (Int × Int)) (h : checkL (W : Int) (H : Int) ps = 0) : parseL (picBytes W H ps) = (W, H, ps, 0) := by
  obtain ⟨hW1, hW8, hH1, hH8, hlen, hall⟩ := check_ok h
  have hl : ps.length = W * H := by
    have h : ((W * H : Nat) : Int) = (W : Int) * (H : Int) := by simp
    omega
  have hrl := rowsTo_len ps W H hl H (Nat.le_refl _)
  have hu : Fb.unpack (Fb.packL (rowsTo ps W H)) ((H * (1 + 2 * W) : Nat) : Int) = (rowsTo ps W H, 0) := by rw [← hrl]; exact Fb.unpack_packL _
  have hr : parseRows (rowsTo ps W H) W H 0 [] = (ps, 0) := by
    have := parse_rows ps W H hl hall H 0 (by omega)
    rw [show aboveOf ps W 0 = [] from rfl] at this
    rw [this, Nat.zero_mul, List.drop_zero, List.take_of_length_le (by rw [hl, Nat.mul_comm]; exact Nat.le_refl _)]
  have h0 : ((picBytes W H ps).getD 0 0).toNat = W := by show (UInt8.ofNat W).toNat = W; exact ofNat_small _ (by omega)
  have h1 : ((picBytes W H ps).getD 1 0).toNat = H := by show (UInt8.ofNat H).toNat = H; exact ofNat_small _ (by omega)
  have hd : (picBytes W H ps).drop 2 = Fb.packL (rowsTo ps W H) := rfl
  have hs : ¬ (sideB (W : Int) = false ∨ sideB (H : Int) = false) := by unfold sideB; simp; omega
  unfold parseL
  rw [if_neg (by simp [picBytes]), h0, h1, if_neg hs, hd, hu]
  simp only [hrl, hr]
  simp

set_option maxRecDepth 100000 in
theorem picBytes_len (W H : Nat) (ps : List (Int × Int)) (h : checkL (W : Int) (H : Int) ps = 0) : (picBytes W H ps).length ≤ 2 + 2 * (H * (1 + 2 * W)) := by
  obtain ⟨hW1, hW8, hH1, hH8, hlen, hall⟩ := check_ok h
  have hl : ps.length = W * H := by
    have h : ((W * H : Nat) : Int) = (W : Int) * (H : Int) := by simp
    omega
  have hrl := rowsTo_len ps W H hl H (Nat.le_refl _)
  have := Fb.packL_len (rowsTo ps W H)
  rw [hrl] at this
  unfold picBytes
  simp only [List.length_cons]
  omega
end Go.Proofs.YtceabiodelfdoaaDoor
/- picture.Bytes of a picture that may not be. -/
namespace Go.Proofs.YtceabiodelfdoaaDoor
open Go.RowKit

set_option maxHeartbeats 4000000 in
set_option maxRecDepth 100000 in
theorem picBytes_err (W H : Int) (v : Value) (ps : List (Int × Int)) (w : World) (hps : ps.length ≤ 1000000000) (HR : Hid (RdP w v ps)) (c : Nat) (hc : c ≠ 0) (HC : Hid (checkL W H ps = c)) :
    Calls Tryd.prog 56 #[.agg #[.int .i64 W, .int .i64 H, v]] w fun e w' => e = .returned (.tuple #[.string ⟨#[]⟩, .iface 61 (.int .i64 (c : Int))]) ∧ Below w.heap.size w w' := by
  have HE : Hid (errV c = .iface 61 (.int .i64 (c : Int))) := by unfold Hid errV; rw [if_neg hc]
  obtain ⟨a, cap, hv, hlc, hcap, hh⟩ := HR.out
  obtain ⟨n, HNN⟩ : ∃ n, Hid (ps.length = n) := ⟨_, (rfl : _ = _)⟩
  clear hh
  rw [HNN.out] at hv hlc
  subst hv
  have hb0 : Below w.heap.size w (w.alloc (.cells #[.int .i64 W, .int .i64 H, .slice a n cap] 43)) := (Below.refl _ _).alloc (Nat.le_refl _) _
  have HR0 : Hid (RdP (w.alloc (.cells #[.int .i64 W, .int .i64 H, .slice a n cap] 43)) (.slice a n cap) ps) := HR.out.on hb0
  go_enter Tryd.func56, Tryd.ntmps56
  go_wp2_with fail
  refine (check_any W H (.slice a n cap) ps _ hps HR0 c HC).mono ?_
  rintro e w1 ⟨rfl, hb1⟩
  rw [HE.out]
  have hbw1 : Below w.heap.size w w1 := hb0.trans (hb1.mono hb0.size)
  clear hb0 hb1 HR0
  go_wp2_with fail
  exact bodyPost_ret (v := .tuple #[.string ⟨#[]⟩, .iface 61 (.int .i64 (c : Int))]) (by simp [results, Tryd.results56, go_sem]) rfl ⟨rfl, hbw1⟩
end Go.Proofs.YtceabiodelfdoaaDoor
/- Walk of the law's number. -/
namespace Go.Proofs.YtceabiodelfdoaaDoor
open Go.RowKit

theorem assert_errno (W : World) (n : Int) : (Instr.typeAssert (.iface 61 (.int .i64 n)) 27 61 true).run Tryd.prog W = .ok (.tuple #[.int .i64 n, .bool true]) W := by kernel_rfl

end Go.Proofs.YtceabiodelfdoaaDoor
/- Walk of the law TopPicture. -/
namespace Go.Proofs.YtceabiodelfdoaaDoor
open Go.RowKit

set_option maxRecDepth 100000 in
theorem rdP_lit (w : World) (g : Nat) (h : Duo w g (.int .i64 0) (.int .i64 0)) : RdP w (.slice (some ⟨g, 0, none⟩) 1 1) [(0, 0)] := by
  refine ⟨_, 1, rfl, by simp, by omega, fun _ => ⟨g, 0, rfl, h.lt, fun j hj => ?_⟩⟩
  have : j = 0 := by simpa using hj
  subst this
  exact ⟨h.c0, h.c1⟩
set_option maxRecDepth 100000 in
theorem duo_start2 (w : World) (x y : Value) (T : TypeId) : Duo (w.alloc (.cells #[x, y] T)) w.heap.size x y := ⟨by simp, by simp, by simp⟩

set_option maxRecDepth 100000 in
theorem picBytes_at (W H : Nat) (v : Value) (ps : List (Int × Int)) (w : World) (HR : Hid (RdP w v ps)) (HC : Hid (checkL (W : Int) (H : Int) ps = 0)) (t : ByteArray) (HT : Hid (picBytes W H ps = t.data.toList)) :
    Calls Tryd.prog 56 #[.agg #[.int .i64 (W : Int), .int .i64 (H : Int), v]] w fun e w' => e = .returned (.tuple #[.string t, .nilIface]) ∧ Below w.heap.size w w' := by
  have h := picBytes_ok W H v ps w HR HC
  rw [HT.out, str_self] at h
  exact h

end Go.Proofs.YtceabiodelfdoaaDoor
/- Close, as lists: the loops that are open, what is told of those that are closed. -/
namespace Go.Proofs.YtceabiodelfdoaaDoor
open Go.RowKit Go.Maps

/-- the loops that are open ahead of the op at k, the innermost one last -/
def stk (qs : List Pq) : Nat → List Nat
  | 0 => []
  | k + 1 => if (qs.getD k pq0).kind = 12 then stk qs k ++ [k] else if (qs.getD k pq0).kind = 13 ∧ 0 < (stk qs k).length then (stk qs k).dropLast else stk qs k
/-- what is told ahead of the op at k -/
def clD (qs : List Pq) : Nat → DataW Unit
  | 0 => .map []
  | k + 1 => if (qs.getD k pq0).kind = 13 ∧ 0 < (stk qs k).length then (clD qs k).put (.int .i64 (((stk qs k).getD ((stk qs k).length - 1) 0 : Nat) : Int)) (.lit (.int .i64 (k : Int))) else clD qs k
theorem stk_le (qs : List Pq) : ∀ k, (stk qs k).length ≤ k ∧ ∀ p ∈ stk qs k, p < k := by
  intro k
  induction k with
  | zero => simp [stk]
  | succ k ih =>
    unfold stk
    split
    · refine ⟨by simp; omega, fun p hp => ?_⟩
      rcases List.mem_append.1 hp with h | h
      · have := ih.2 p h; omega
      · simp at h; omega
    · split
      · refine ⟨by simp; omega, fun p hp => ?_⟩
        have := ih.2 p (List.dropLast_subset _ hp); omega
      · exact ⟨by omega, fun p hp => by have := ih.2 p hp; omega⟩
theorem clD_map (qs : List Pq) : ∀ k, IsMap (clD qs k) := by
  intro k
  induction k with
  | zero => exact isMap_empty
  | succ k ih =>
    unfold clD
    split
    · exact ih.put _ _
    · exact ih
/-- what holds of the open loops of a book -/
structure StkI (qs : List Pq) (k : Nat) : Prop where
  len : ((stk qs k).length : Int) = dep qs k
  inn : ∀ m, m < (stk qs k).length → (stk qs k).getD m 0 < k ∧ (qs.getD ((stk qs k).getD m 0) pq0).kind = 12 ∧ dep qs ((stk qs k).getD m 0) = m ∧ ∀ j, (stk qs k).getD m 0 < j → j ≤ k → (m : Int) + 1 ≤ dep qs j
theorem dropLast_getN (l : List Nat) {m : Nat} (h : m < l.length - 1) : l.dropLast.getD m 0 = l.getD m 0 := by
  rw [List.getD_eq_getElem?_getD, List.getD_eq_getElem?_getD, List.getElem?_dropLast, if_pos h]
theorem stk_inv {qs : List Pq} (hb : Book qs) : ∀ k, k ≤ qs.length → StkI qs k := by
  intro k
  induction k with
  | zero => intro _; exact ⟨by simp [stk, dep_zero], fun m hm => by simp [stk] at hm⟩
  | succ k ih =>
    intro hk
    have hi := ih (by omega)
    have hs := dep_succ qs k (by omega)
    have hlo := hb.low (k + 1) hk
    unfold stk at *
    rcases opn_cases (qs.getD k pq0) with ⟨h1, h2⟩ | ⟨h1, h2⟩ | ⟨h1, h3, h2⟩
    · have e : stk qs (k + 1) = stk qs k ++ [k] := by rw [stk, if_pos h1]
      refine ⟨by rw [e]; simp; have := hi.len; omega, fun m hm => ?_⟩
      rw [e] at hm ⊢
      simp only [List.length_append, List.length_singleton] at hm
      rw [snoc_getD _ _ _ m hm]
      split
      · rename_i hm2
        have := hi.len
        refine ⟨by omega, h1, by omega, fun j j1 j2 => ?_⟩
        obtain rfl : j = k + 1 := by omega
        omega
      · obtain ⟨a1, a2, a3, a4⟩ := hi.inn m (by omega)
        refine ⟨by omega, a2, a3, fun j j1 j2 => ?_⟩
        rcases Nat.eq_or_lt_of_le j2 with rfl | j2
        · have := hi.len; omega
        · exact a4 j j1 (by omega)
    · have hpos : 0 < (stk qs k).length := by have := hi.len; omega
      have e : stk qs (k + 1) = (stk qs k).dropLast := by rw [stk, if_neg (by omega), if_pos ⟨h1, hpos⟩]
      refine ⟨by rw [e]; simp; have := hi.len; omega, fun m hm => ?_⟩
      rw [e] at hm ⊢
      simp only [List.length_dropLast] at hm
      rw [dropLast_getN _ hm]
      obtain ⟨a1, a2, a3, a4⟩ := hi.inn m (by omega)
      refine ⟨by omega, a2, a3, fun j j1 j2 => ?_⟩
      rcases Nat.eq_or_lt_of_le j2 with rfl | j2
      · have := hi.len; omega
      · exact a4 j j1 (by omega)
    · have e : stk qs (k + 1) = stk qs k := by rw [stk, if_neg h1, if_neg (fun h => h3 h.1)]
      refine ⟨by rw [e]; have := hi.len; omega, fun m hm => ?_⟩
      rw [e] at hm ⊢
      obtain ⟨a1, a2, a3, a4⟩ := hi.inn m hm
      refine ⟨by omega, a2, a3, fun j j1 j2 => ?_⟩
      rcases Nat.eq_or_lt_of_le j2 with rfl | j2
      · have := hi.len; omega
      · exact a4 j j1 (by omega)
/-- the loop that a Next closes -/
theorem clo_top {qs : List Pq} (hb : Book qs) {k : Nat} (hk : k < qs.length) (h : (qs.getD k pq0).kind = 13) : 0 < (stk qs k).length ∧ Clo qs ((stk qs k).getD ((stk qs k).length - 1) 0) k := by
  have hi := stk_inv hb k (by omega)
  have hs := dep_succ qs k hk
  have hlo := hb.low (k + 1) hk
  have ho : opn (qs.getD k pq0) = -1 := by unfold opn; rw [if_neg (by omega), if_pos h]
  have hpos : 0 < (stk qs k).length := by have := hi.len; omega
  obtain ⟨a1, a2, a3, a4⟩ := hi.inn ((stk qs k).length - 1) (by omega)
  refine ⟨hpos, a1, hk, a2, h, ?_, fun j j1 j2 => ?_⟩
  · have := hi.len; omega
  · have := a4 j j1 j2; omega
theorem Clo.two {qs : List Pq} {p p' j : Nat} (h : Clo qs p j) (h' : Clo qs p' j) : p = p' := by
  have h1 := h.same
  have h2 := h'.same
  rcases Nat.lt_trichotomy p p' with hl | rfl | hl
  · have := h.over p' hl (by have := h'.lt; omega); omega
  · rfl
  · have := h'.over p hl (by have := h.lt; omega); omega
theorem int_ne {a b : Nat} (h : a ≠ b) : Lit.int .i64 (a : Int) ≠ Lit.int .i64 (b : Int) := by
  intro e; simp only [Lit.int.injEq, true_and] at e; omega
theorem clD_at {qs : List Pq} (hb : Book qs) : ∀ k, k ≤ qs.length → ∀ p j, Clo qs p j → j < k → ∀ z, (clD qs k).atKey (.int .i64 (p : Int)) z = .lit (.int .i64 (j : Int)) := by
  intro k
  induction k with
  | zero => intro _ p j _ h; omega
  | succ k ih =>
    intro hk p j hc hj z
    by_cases h13 : (qs.getD k pq0).kind = 13
    · obtain ⟨t1, t2⟩ := clo_top hb hk h13
      unfold clD
      rw [if_pos ⟨h13, t1⟩]
      rcases Nat.eq_or_lt_of_le (Nat.le_of_lt_succ hj) with rfl | hj
      · rw [hc.two t2]
        exact atKey_put_same (clD_map qs _) (by constructor) _ _
      · rw [atKey_put_other (int_ne (fun e => by rw [e] at hc; have := hc.one t2; omega))]
        exact ih (by omega) p j hc hj z
    · unfold clD
      rw [if_neg (fun h => h13 h.1)]
      refine ih (by omega) p j hc ?_ z
      rcases Nat.eq_or_lt_of_le (Nat.le_of_lt_succ hj) with rfl | hj
      · exact absurd hc.next h13
      · exact hj
/-- whatever is told is a loop's -/
theorem clD_has {qs : List Pq} (hb : Book qs) : ∀ k, k ≤ qs.length → ∀ kl, has (clD qs k) kl = true → ∃ p j, kl = .int .i64 ((p : Nat) : Int) ∧ Clo qs p j ∧ j < k := by
  intro k
  induction k with
  | zero => intro _ kl h; simp [clD, has] at h
  | succ k ih =>
    intro hk kl h
    by_cases h13 : (qs.getD k pq0).kind = 13
    · obtain ⟨t1, t2⟩ := clo_top hb hk h13
      unfold clD at h
      rw [if_pos ⟨h13, t1⟩] at h
      by_cases he : kl = .int .i64 (((stk qs k).getD ((stk qs k).length - 1) 0 : Nat) : Int)
      · exact ⟨_, k, he, t2, by omega⟩
      · rw [has_put_other he] at h
        obtain ⟨p, j, a, b, c⟩ := ih (by omega) kl h
        exact ⟨p, j, a, b, by omega⟩
    · unfold clD at h
      rw [if_neg (fun h => h13 h.1)] at h
      obtain ⟨p, j, a, b, c⟩ := ih (by omega) kl h
      exact ⟨p, j, a, b, by omega⟩
/-- a row of numbers -/
def natV (l : List Nat) : List Value := l.map fun (p : Nat) => Value.int .i64 (p : Int)
theorem natV_len (l : List Nat) : (natV l).length = l.length := by simp [natV]
theorem natV_snoc (l : List Nat) (p : Nat) : natV (l ++ [p]) = natV l ++ [.int .i64 (p : Int)] := by simp [natV]
theorem natV_at (l : List Nat) {m : Nat} (h : m < l.length) : (natV l)[m]? = some (.int .i64 ((l.getD m 0 : Nat) : Int)) := by
  simp [natV, List.getD_eq_getElem?_getD, List.getElem?_eq_getElem h]
theorem natV_drop (l : List Nat) : natV l.dropLast = (natV l).take (l.length - 1) := by
  simp [natV, List.dropLast_eq_take, List.map_take]
/-- the first elements of a row of one's own -/
theorem own_cut {w : World} {B : Nat} {e : TypeId} {s : Nat} {a : Option Addr} {n c m : Nat} {xs : List Value} (h : w.ownsRow B e s (.slice a n c) n xs) (hm : m ≤ n) (hn : 0 < n) : w.ownsRow B e s (.slice a m c) m (xs.take (m * s)) := by
  rcases h.2 with ⟨_, h0⟩ | ⟨g, cap, cur, hv, hb, hg, h1, h2, h3, h4⟩
  · omega
  · simp only [Value.slice.injEq] at hv
    obtain ⟨rfl, _, rfl⟩ := hv
    have hms : m * s ≤ n * s := Nat.mul_le_mul_right _ hm
    refine ⟨by rw [List.length_take, h.1]; omega, .inr ⟨g, c, cur, rfl, hb, hg, by omega, h2, h3, ?_⟩⟩
    rw [← h4, List.take_take, Nat.min_eq_left hms]
theorem own_cap {w : World} {B : Nat} {e : TypeId} {s n c : Nat} {a : Option Addr} {xs : List Value} (h : w.ownsRow B e s (.slice a n c) n xs) : n ≤ c := by
  rcases h.2 with ⟨h0, hn⟩ | ⟨g, cap, cur, hv, _, _, h1, _⟩
  · omega
  · simp only [Value.slice.injEq] at hv; omega
end Go.Proofs.YtceabiodelfdoaaDoor
/- Walk: book.Close. -/
namespace Go.Proofs.YtceabiodelfdoaaDoor
open Go.RowKit Go.Maps

theorem law_int : Keyed Tryd.prog 3 := int_keyed Tryd.underlying3
theorem wf_nat {a : Nat} (h : a ≤ 1000000) : (Lit.int .i64 (a : Int)).wf = true := WalkArith.wf_i64 (by omega)

theorem map_apart {w : World} {B : Nat} {e : TypeId} {s n : Nat} {v : Value} {xs : List Value} {kt : TypeId} {R : Value → Option (DataW Unit × List MemPlace)} {b k : Nat} {D : DataW Unit} (h : w.ownsRow B e s v n xs) (hm : w.ownsMap Tryd.prog kt R b k D) : some b ≠ v.ownBlock := by
  intro he
  obtain ⟨es, clock, hb, _⟩ := hm
  rcases h.2 with ⟨rfl, _⟩ | ⟨g, cap, cur, rfl, _, hg, _⟩
  · simp [Value.ownBlock] at he
  · simp only [Value.ownBlock, Option.some.injEq] at he
    subst he
    rw [hb] at hg
    cases hg
def CloseP (qs : List Pq) (w : World) (e : Ending) (w' : World) : Prop :=
  ∃ bm, e = .returned (.map (some bm)) ∧ w.heap.size ≤ bm ∧ w'.ownsMap Tryd.prog 3 (plainElem Tryd.prog 3) bm qs.length (clD qs qs.length) ∧ Below w.heap.size w w'

set_option maxHeartbeats 8000000 in
set_option maxRecDepth 100000 in
theorem close_any (v : Value) (qs : List Pq) (w : World) (HR : Hid (RdQ w v qs)) (hnq : qs.length ≤ 1000) :
    Calls Tryd.prog 14 #[v] w fun e w' => CloseP qs w e w' := by
  obtain ⟨i0, hi, hz0, hz1, hz2⟩ := info_parts Tryd.infoInt
  obtain ⟨a, cap, hv, hl, hcap⟩ := HR.out.shape
  obtain ⟨n, HN⟩ : ∃ n, Hid (qs.length = n) := ⟨_, (rfl : _ = _)⟩
  rw [HN.out] at hv hl hnq
  subst hv
  have hmm := @run_makeMap Tryd.prog
  have hb0 : Below w.heap.size w (w.alloc (.map #[] 0)) := (Below.refl _ _).alloc (Nat.le_refl _) _
  have hm0 : Hid ((w.alloc (.map #[] 0)).ownsMap Tryd.prog 3 (plainElem Tryd.prog 3) w.heap.size 0 (clD qs 0)) := World.ownsMap_made _ _ _ _
  unfold CloseP
  rw [HN.out]
  go_enter Tryd.func14, Tryd.ntmps14
  go_wp2_with fail
  go_loopw [4, 11] (fun o i wr => ∃ (k : Nat) (oa : Option Addr) (m oc : Nat), k ≤ n ∧ i = .int .i64 k ∧ o = .slice oa m oc ∧ Hid ((stk qs k).length = m) ∧ Hid (wr.ownsRow w.heap.size 3 1 (.slice oa m oc) m (natV (stk qs k))) ∧ Hid (wr.ownsMap Tryd.prog 3 (plainElem Tryd.prog 3) w.heap.size k (clD qs k)) ∧ Below w.heap.size w wr ∧ w.heap.size + 1 ≤ wr.heap.size) (fun _ i _ => n - (intOf i).toNat)
  case atStart => exact ⟨0, none, 0, 0, by omega, rfl, rfl, rfl, World.ownsRow_nil _ _ _ _, hm0, hb0, by simp⟩
  case round =>
    obtain ⟨k, oa, m, oc, hk, rfl, rfl, HM, HO, HD, hbr, hsz⟩ := hrel
    by_cases hlt : k < n
    · have hlt' : k < qs.length := by rw [HN.out]; exact hlt
      have hmk : m ≤ k := by rw [← HM.out]; exact (stk_le qs k).1
      obtain ⟨q, HX⟩ : ∃ q, Hid (qs.getD k pq0 = q) := ⟨_, (rfl : _ = _)⟩
      obtain ⟨g, o, ua, mu, uc, rfl, hg, OC, HU, HMU⟩ := (HR.out.on hbr).at hlt HX
      have HS1 : Hid (q.kind = 12 → stk qs (k + 1) = stk qs k ++ [k] ∧ clD qs (k + 1) = clD qs k) := fun h => ⟨by rw [stk, HX.out, if_pos h], by rw [clD, HX.out, if_neg (by omega)]⟩
      have HS2 : Hid (q.kind = 13 → 0 < m → stk qs (k + 1) = (stk qs k).dropLast ∧ clD qs (k + 1) = (clD qs k).put (.int .i64 (((stk qs k).getD (m - 1) 0 : Nat) : Int)) (.lit (.int .i64 (k : Int)))) := fun h h0 => ⟨by rw [stk, HX.out, if_neg (by omega), if_pos ⟨h, by rw [HM.out]; exact h0⟩], by rw [clD, HX.out, if_pos ⟨h, by rw [HM.out]; exact h0⟩, HM.out]⟩
      have HS3 : Hid (q.kind ≠ 12 → ¬ (q.kind = 13 ∧ 0 < m) → stk qs (k + 1) = stk qs k ∧ clD qs (k + 1) = clD qs k) := fun h h0 => ⟨by rw [stk, HX.out, if_neg h, if_neg (by rw [HM.out]; exact h0)], by rw [clD, HX.out, if_neg (by rw [HM.out]; exact h0)]⟩
      obtain ⟨kd, qid, qa, qb, qc, qd, qw, qh, qp⟩ := q
      obtain ⟨c0, c1, c2, c3, c4, c5, c6, c7, c8⟩ := OC
      simp only at c0 c1 c2 c3 c4 c5 c6 c7 c8 HS1 HS2 HS3
      have hbx : Below wr.heap.size wr (wr.alloc (.cells #[.int .i64 kd, .int .i64 qid, .int .i64 qa, .int .i64 qb, .int .i64 qc, .int .i64 qd, .int .i64 qw, .int .i64 qh, .slice ua mu uc] 45)) := (Below.refl _ _).alloc (Nat.le_refl _) _
      have hbX := hbr.trans (hbx.mono hbr.size)
      have hki0 : (0 : Int) ≤ (k : Int) := by omega
      have hki1 : (k : Int) < (n : Int) := by omega
      have HDX : Hid (World.ownsMap (wr.alloc (.cells #[.int .i64 kd, .int .i64 qid, .int .i64 qa, .int .i64 qb, .int .i64 qc, .int .i64 qd, .int .i64 qw, .int .i64 qh, .slice ua mu uc] 45)) Tryd.prog 3 (plainElem Tryd.prog 3) w.heap.size k (clD qs k)) := HD.out.alloc _
      have HOX := hid_of2 (own_on2 HO.out hbx)
      have hszX : w.heap.size + 1 ≤ (wr.alloc (.cells #[.int .i64 kd, .int .i64 qid, .int .i64 qa, .int .i64 qb, .int .i64 qc, .int .i64 qd, .int .i64 qw, .int .i64 qh, .slice ua mu uc] 45)).heap.size := by simp; omega
      clear HU HX hlt' hbx
      by_cases k12 : kd = 12
      · have b12 : (kd == 12) = true := by simpa using k12
        have hs1 := hid_of2 (HS1.out k12)
        clear HS1 HS2 HS3 k12
        go_wp2_with (at_builtin; refine wpList_append_own _ rfl _ _ 78 rfl w.heap.size 3 i0 (.int .i64 0) 1 8 Tryd.underlying78 hi hz0 hz1 hz2 rfl (by decide) _ _ _ rfl (own_on2 HOX.out ((Below.refl _ _).alloc (Nat.le_refl _) _)) ⟨wr.heap.size + 1, 0, none⟩ 1 1 [.int .i64 (k : Int)] rfl rfl ?c1 ?c2 ?c3 ?c4 ?c5 ?_)
        case c2 => rfl
        case c3 => unfold maxLen; omega
        case c4 => omega
        case c5 => omega
        intro v' w1 ho1 hg1 _
        obtain ⟨a', c', hv'⟩ := own_any ho1
        subst hv'
        have hs1 := hs1.out
        have HM1 : Hid ((stk qs (k + 1)).length = m + 1) := by unfold Hid; rw [hs1.1, List.length_append, HM.out]; rfl
        have HO1 : Hid (w1.ownsRow w.heap.size 3 1 (.slice a' (m + 1) c') (m + 1) (natV (stk qs (k + 1)))) := by unfold Hid; rw [hs1.1, natV_snoc]; exact ho1
        have HD1 : Hid (w1.ownsMap Tryd.prog 3 (plainElem Tryd.prog 3) w.heap.size (k + 1) (clD qs (k + 1))) := by
          unfold Hid; rw [hs1.2]
          exact ((HDX.out.alloc _).kept hg1 (map_apart HOX.out HDX.out)).mono (by omega)
        have hb1 : Below w.heap.size w w1 := (hbX.alloc hbX.size _).grown hg1 (by simp; omega) (fun z hz => (HOX.out.lt z hz).1)
        have hsz1 : w.heap.size + 1 ≤ w1.heap.size := by have := hg1.size; simp at this; omega
        clear ho1 hg1 hs1
        go_wp2_with fail
        go_roundw
        case rel => exact ⟨k + 1, _, _, _, by omega, by go_num, rfl, HM1, HO1, HD1, hb1, hsz1⟩
        case measure => simp [intOf]; omega
      · have b12 : (kd == 12) = false := by simpa using k12
        by_cases k13 : kd = 13
        · have b13 : (kd == 13) = true := by simpa using k13
          by_cases hm0 : 0 < m
          · have hs2 := HS2.out k13 hm0
            have hmi : (0 : Int) < (m : Int) := by omega
            obtain ⟨j, hj⟩ : ∃ j, m = j + 1 := ⟨m - 1, by omega⟩
            subst hj
            have hji : (0 : Int) ≤ (j : Int) := by omega
            have hji2 : (j : Int) < ((j + 1 : Nat) : Int) := by omega
            have hjl : j < (stk qs k).length := by rw [HM.out]; omega
            obtain ⟨p, HP⟩ : ∃ p, Hid ((stk qs k).getD j 0 = p) := ⟨_, (rfl : _ = _)⟩
            rw [show j + 1 - 1 = j by omega, HP.out] at hs2
            have hpk : p < k := by
              rw [← HP.out, List.getD_eq_getElem?_getD, List.getElem?_eq_getElem hjl]
              exact (stk_le qs k).2 _ (List.getElem_mem hjl)
            obtain ⟨gs, os, hoa⟩ : ∃ gs os, oa = some ⟨gs, os, none⟩ := by
              rcases HOX.out.2 with ⟨h, _⟩ | ⟨g, cap, cur, hv, _⟩
              · simp at h
              · simp only [Value.slice.injEq] at hv; exact ⟨g, 0, hv.1⟩
            obtain ⟨gs', rfl⟩ : ∃ gs, oa = some ⟨gs, 0, none⟩ := by
              rcases HOX.out.2 with ⟨h, _⟩ | ⟨g, cap, cur, hv, _⟩
              · simp at h
              · simp only [Value.slice.injEq] at hv; exact ⟨g, hv.1⟩
            clear hoa
            have hcell : (wr.alloc (.cells #[.int .i64 kd, .int .i64 qid, .int .i64 qa, .int .i64 qb, .int .i64 qc, .int .i64 qd, .int .i64 qw, .int .i64 qh, .slice ua mu uc] 45)).cell? ⟨gs', j, none⟩ = some (.int .i64 (p : Int)) := by
              rw [HOX.out.cellAt j (by omega), natV_at _ hjl, HP.out]
            have HM1 : Hid ((stk qs (k + 1)).length = j) := by unfold Hid; rw [hs2.1, List.length_dropLast, HM.out]; rfl
            have HOC : Hid ((wr.alloc (.cells #[.int .i64 kd, .int .i64 qid, .int .i64 qa, .int .i64 qb, .int .i64 qc, .int .i64 qd, .int .i64 qw, .int .i64 qh, .slice ua mu uc] 45)).ownsRow w.heap.size 3 1 (.slice (some ⟨gs', 0, none⟩) j oc) j (natV (stk qs (k + 1)))) := by
              unfold Hid
              rw [hs2.1, natV_drop, HM.out]
              have := own_cut HOX.out (m := j) (by omega) (by omega)
              simpa using this
            have hoc := own_cap HOX.out
            have hoc1 : (j : Int) ≤ (oc : Int) := by omega
            have HS2H := hid_of2 hs2
            clear HS1 HS2 HS3 k12 k13 hs2
            go_wp2_with (at_mapUpdate; refine wpList_mapUpdate_own _ rfl _ _ _ 39 rfl 3 3 law_int Tryd.underlying39 _ w.heap.size k _ rfl HDX.out (by unfold maxLen; omega) _ _ _ rfl rfl (keyOf_int_mk Tryd.underlying3 (wf_nat (a := p) (by omega))) _ [] (plainElem_int Tryd.underlying3 (wf_nat (a := k) (by omega))) ?_)
            intro w1 hm1 hg1
            have HO1 : Hid (w1.ownsRow w.heap.size 3 1 (.slice (some ⟨gs', 0, none⟩) j oc) j (natV (stk qs (k + 1)))) := HOC.out.kept hg1 (.inr (fun e => map_apart HOC.out HDX.out e.symm))
            have HD1 : Hid (w1.ownsMap Tryd.prog 3 (plainElem Tryd.prog 3) w.heap.size (k + 1) (clD qs (k + 1))) := by unfold Hid; rw [HS2H.out.2]; exact hm1
            have hb1 : Below w.heap.size w w1 := hbX.grown hg1 hbX.size (fun z hz => by cases hz; exact Nat.le_refl _)
            have hsz1 : w.heap.size + 1 ≤ w1.heap.size := by have := hg1.size; omega
            clear hm1 hg1 HS2H HOC HOX HDX hcell
            go_wp2_with fail
            go_roundw
            case rel => exact ⟨k + 1, _, _, _, by omega, by go_num, rfl, HM1, HO1, HD1, hb1, hsz1⟩
            case measure => simp [intOf]; omega
          · have hs3 := hid_of2 (HS3.out k12 (fun h => hm0 h.2))
            have hm00 : ¬ (0 : Int) < (m : Int) := by omega
            have HM1 : Hid ((stk qs (k + 1)).length = m) := by unfold Hid; rw [hs3.out.1]; exact HM.out
            have HO1 : Hid ((wr.alloc (.cells #[.int .i64 kd, .int .i64 qid, .int .i64 qa, .int .i64 qb, .int .i64 qc, .int .i64 qd, .int .i64 qw, .int .i64 qh, .slice ua mu uc] 45)).ownsRow w.heap.size 3 1 (.slice oa m oc) m (natV (stk qs (k + 1)))) := by unfold Hid; rw [hs3.out.1]; exact HOX.out
            have HD1 : Hid ((wr.alloc (.cells #[.int .i64 kd, .int .i64 qid, .int .i64 qa, .int .i64 qb, .int .i64 qc, .int .i64 qd, .int .i64 qw, .int .i64 qh, .slice ua mu uc] 45)).ownsMap Tryd.prog 3 (plainElem Tryd.prog 3) w.heap.size (k + 1) (clD qs (k + 1))) := by unfold Hid; rw [hs3.out.2]; exact HDX.out.mono (by omega)
            clear HS1 HS2 HS3 k12 k13 hs3 HOX HDX hm0
            go_wp2_with fail
            go_roundw
            case rel => exact ⟨k + 1, _, _, _, by omega, by go_num, rfl, HM1, HO1, HD1, hbX, hszX⟩
            case measure => simp [intOf]; omega
        · have b13 : (kd == 13) = false := by simpa using k13
          have hs3 := hid_of2 (HS3.out k12 (fun h => k13 h.1))
          have HM1 : Hid ((stk qs (k + 1)).length = m) := by unfold Hid; rw [hs3.out.1]; exact HM.out
          have HO1 : Hid ((wr.alloc (.cells #[.int .i64 kd, .int .i64 qid, .int .i64 qa, .int .i64 qb, .int .i64 qc, .int .i64 qd, .int .i64 qw, .int .i64 qh, .slice ua mu uc] 45)).ownsRow w.heap.size 3 1 (.slice oa m oc) m (natV (stk qs (k + 1)))) := by unfold Hid; rw [hs3.out.1]; exact HOX.out
          have HD1 : Hid ((wr.alloc (.cells #[.int .i64 kd, .int .i64 qid, .int .i64 qa, .int .i64 qb, .int .i64 qc, .int .i64 qd, .int .i64 qw, .int .i64 qh, .slice ua mu uc] 45)).ownsMap Tryd.prog 3 (plainElem Tryd.prog 3) w.heap.size (k + 1) (clD qs (k + 1))) := by unfold Hid; rw [hs3.out.2]; exact HDX.out.mono (by omega)
          clear HS1 HS2 HS3 k12 k13 hs3 HOX HDX
          go_wp2_with fail
          go_roundw
          case rel => exact ⟨k + 1, _, _, _, by omega, by go_num, rfl, HM1, HO1, HD1, hbX, hszX⟩
          case measure => simp [intOf]; omega
    · obtain rfl : k = n := by omega
      go_wp2_with fail
      go_ret
      exact ⟨_, rfl, Nat.le_refl _, HD.out, hbr⟩
end Go.Proofs.YtceabiodelfdoaaDoor
/- How many loops a book has: just so many are told of by Close. -/
namespace Go.Proofs.YtceabiodelfdoaaDoor
open Go.RowKit Go.Maps

/-- the loops ahead of the op at k -/
def lps (qs : List Pq) : Nat → List Nat
  | 0 => []
  | k + 1 => if (qs.getD k pq0).kind = 12 then lps qs k ++ [k] else lps qs k
theorem lps_mem (qs : List Pq) : ∀ k p, p ∈ lps qs k ↔ p < k ∧ (qs.getD p pq0).kind = 12 := by
  intro k
  induction k with
  | zero => intro p; simp [lps]
  | succ k ih =>
    intro p
    unfold lps
    split
    · rename_i h
      rw [List.mem_append, ih p, List.mem_singleton]
      constructor
      · rintro (⟨h1, h2⟩ | rfl)
        · exact ⟨by omega, h2⟩
        · exact ⟨by omega, h⟩
      · rintro ⟨h1, h2⟩
        rcases Nat.eq_or_lt_of_le (Nat.le_of_lt_succ h1) with rfl | h3
        · exact .inr rfl
        · exact .inl ⟨h3, h2⟩
    · rename_i h
      rw [ih p]
      constructor
      · rintro ⟨h1, h2⟩; exact ⟨by omega, h2⟩
      · rintro ⟨h1, h2⟩
        rcases Nat.eq_or_lt_of_le (Nat.le_of_lt_succ h1) with rfl | h3
        · exact absurd h2 h
        · exact ⟨h3, h2⟩
theorem lps_nodup (qs : List Pq) : ∀ k, (lps qs k).Nodup := by
  intro k
  induction k with
  | zero => exact List.nodup_nil
  | succ k ih =>
    unfold lps
    split
    · refine List.nodup_append.2 ⟨ih, by simp, fun a ha b hb => ?_⟩
      have := ((lps_mem qs k a).1 ha).1
      have hb := List.mem_singleton.1 hb
      omega
    · exact ih
theorem lps_len (qs : List Pq) : ∀ k, (lps qs k).length ≤ k := by
  intro k
  induction k with
  | zero => simp [lps]
  | succ k ih =>
    unfold lps
    split
    · simp; omega
    · omega
theorem map_below {w w' : World} {k : TypeId} {R : Value → Option (DataW Unit × List MemPlace)} {b n : Nat} {D : DataW Unit} (h : w.ownsMap Tryd.prog k R b n D) (hb : Below w.heap.size w w') : w'.ownsMap Tryd.prog k R b n D := by
  have hlt := World.ownsMap.lt h
  obtain ⟨es, clock, h1, h2⟩ := h
  exact ⟨es, clock, (hb.block b hlt).trans h1, h2⟩
def litI : Lit → Int
  | .int _ x => x
  | _ => 0
theorem own_size {D : DataW Unit} {ks : List Int} {R : Value → Option (DataW Unit × List MemPlace)} {w : World} {b n : Nat} (hnd : ks.Nodup) (hm : ∀ x : Int, x ∈ ks ↔ has D (.int .i64 x) = true) (hown : w.ownsMap Tryd.prog 3 R b n D) : ks.length = size D := by
  obtain ⟨es, hD, hp, _⟩ := hown.entries law_int
  obtain ⟨es', hD', hko⟩ := hown.keysOf
  obtain rfl : es = es' := by rw [hD] at hD'; simpa using hD'
  subst hD
  have hk : ∀ p ∈ es, ∃ x, p.1 = .int .i64 x := fun p hp => by obtain ⟨v, hv⟩ := hko p hp; obtain ⟨x, _, hx, _⟩ := Maps.keyOf_int_inv Tryd.underlying3 hv; exact ⟨x, hx⟩
  have hperm : ks.Perm (es.map fun p => litI p.1) := by
    refine (List.perm_ext_iff_of_nodup hnd ?_).2 fun x => ?_
    · show (es.map fun p => litI p.1).Nodup
      refine List.pairwise_map.2 (hp.imp_of_mem fun {p q} hp' hq' hne e => hne ?_)
      obtain ⟨a, ha⟩ := hk p hp'
      obtain ⟨b, hb⟩ := hk q hq'
      rw [ha, hb] at e ⊢
      exact congrArg _ e
    · rw [hm x, has_eq, List.any_eq_true]
      show _ ↔ x ∈ es.map fun p => litI p.1
      rw [List.mem_map]
      constructor
      · rintro ⟨p, hp', hs⟩
        obtain ⟨a, ha⟩ := hk p hp'
        rw [ha] at hs
        exact ⟨p, hp', by rw [ha]; simpa [Lit.sameKey, litI] using hs⟩
      · rintro ⟨p, hp', rfl⟩
        obtain ⟨a, ha⟩ := hk p hp'
        exact ⟨p, hp', by rw [ha]; simp [Lit.sameKey, litI]⟩
  rw [hperm.length_eq, List.length_map, size_eq]
theorem lps_size {qs : List Pq} (hb : Book qs) {R : Value → Option (DataW Unit × List MemPlace)} {w : World} {b n : Nat} (hown : w.ownsMap Tryd.prog 3 R b n (clD qs qs.length)) : (lps qs qs.length).length = size (clD qs qs.length) := by
  have h := own_size (ks := (lps qs qs.length).map fun p : Nat => (p : Int)) (D := clD qs qs.length) (R := R) (w := w) (b := b) (n := n) ?_ ?_ hown
  · rw [← h, List.length_map]
  · exact List.pairwise_map.2 ((lps_nodup qs qs.length).imp fun {a b} hne e => hne (by omega))
  · intro x
    rw [List.mem_map]
    constructor
    · rintro ⟨p, hp, rfl⟩
      obtain ⟨h1, h2⟩ := (lps_mem qs _ p).1 hp
      obtain ⟨j, hj⟩ := clo_ex hb h1 h2
      exact has_true_of_atKey (clD_at hb qs.length (Nat.le_refl _) p j hj hj.on)
    · intro hx
      obtain ⟨p, j, hpe, hc, hj⟩ := clD_has hb qs.length (Nat.le_refl _) _ hx
      simp only [Lit.int.injEq, true_and] at hpe
      subst hpe
      exact ⟨p, (lps_mem qs _ p).2 ⟨by have := hc.lt; omega, hc.loop⟩, rfl⟩
end Go.Proofs.YtceabiodelfdoaaDoor
/- Walk of the laws' own LightOps (as in WkA, without the machine). -/
namespace Go.Proofs.YtceabiodelfdoaaDoor
open Go.RowKit Go.Maps

/-- ops that are few, and not too much -/
structure LightQs (qs : List Pq) : Prop where
  few : qs.length ≤ 70
  pix : ∀ j, j < qs.length → (qs.getD j pq0).ps.length ≤ 80

set_option maxHeartbeats 8000000 in
set_option maxRecDepth 100000 in
theorem lightOps_any (v : Value) (qs : List Pq) (w : World) (HR : Hid (RdQ w v qs)) :
    Calls Tryd.prog 5 #[v, .int .i64 70] w fun e w' => ∃ b, e = .returned (.bool b) ∧ (b = true → LightQs qs) ∧ Below w.heap.size w w' := by
  obtain ⟨a, cap, hv, hl, hcap⟩ := HR.out.shape
  obtain ⟨n, HN⟩ : ∃ n, Hid (qs.length = n) := ⟨_, (rfl : _ = _)⟩
  rw [HN.out] at hv hl
  subst hv
  by_cases h70 : 70 < n
  · have h70i : (70 : Int) < (n : Int) := by omega
    go_enter Tryd.func5, Tryd.ntmps5
    go_wp2_with fail
    go_ret
    exact ⟨false, rfl, (by intro h; cases h), Below.refl _ _⟩
  have h70i : ¬ (70 : Int) < (n : Int) := by omega
  have hbz : Below w.heap.size w w := Below.refl _ _
  go_enter Tryd.func5, Tryd.ntmps5
  go_wp2_with fail
  go_loopw [5] (fun i wr => ∃ k : Nat, k ≤ n ∧ i = .int .i64 k ∧ Hid (∀ j, j < k → (qs.getD j pq0).ps.length ≤ 80) ∧ Below w.heap.size w wr) (fun i _ => n - (intOf i).toNat)
  case atStart => exact ⟨0, by omega, rfl, (by intro j hj; omega), hbz⟩
  case round =>
    obtain ⟨k, hk, rfl, HP, hbr⟩ := hrel
    by_cases hlt : k < n
    · obtain ⟨q, HX⟩ : ∃ q, Hid (qs.getD k pq0 = q) := ⟨_, (rfl : _ = _)⟩
      obtain ⟨g, o, ua, mu, uc, rfl, hg, OC, HU, HMU⟩ := (HR.out.on hbr).at hlt HX
      obtain ⟨c0, c1, c2, c3, c4, c5, c6, c7, c8⟩ := OC
      have hki0 : (0 : Int) ≤ (k : Int) := by omega
      have hki1 : (k : Int) < (n : Int) := by omega
      have hmu : mu ≤ 9223372036854775807 := by obtain ⟨_, _, h, h2, h3, _⟩ := HU.out; simp only [Value.slice.injEq] at h; omega
      clear HU
      by_cases h80 : mu ≤ 80
      · have HP2 : Hid (∀ j, j < k + 1 → (qs.getD j pq0).ps.length ≤ 80) := by
          intro j hj
          rcases Nat.eq_or_lt_of_le (Nat.le_of_lt_succ hj) with rfl | hj
          · rw [HX.out, HMU.out]; exact h80
          · exact HP.out j hj
        have HB80 : Hid (decide (mu ≤ 80) = true) := by unfold Hid; simp [h80]
        go_wp2_with fail
        refine (light_any q.pw q.ph ua mu uc _ hmu true HB80).mono ?_
        rintro e w2 ⟨rfl, hb2⟩
        have hbb2 := hbr.trans (hb2.mono hbr.size)
        clear hb2
        go_wp2_with fail
        go_roundw
        case rel => exact ⟨k + 1, by omega, by go_num, HP2, hbb2⟩
        case measure => simp [intOf]; omega
      · have HB80 : Hid (decide (mu ≤ 80) = false) := by unfold Hid; simp [h80]
        go_wp2_with fail
        refine (light_any q.pw q.ph ua mu uc _ hmu false HB80).mono ?_
        rintro e w2 ⟨rfl, hb2⟩
        have hbb2 := hbr.trans (hb2.mono hbr.size)
        go_wp2_with fail
        go_ret
        exact ⟨false, rfl, (by intro h; cases h), hbb2⟩
    · obtain rfl : k = n := by omega
      have HL : Hid (LightQs qs) := ⟨by rw [HN.out]; omega, fun j hj => HP.out j (by rw [HN.out] at hj; exact hj)⟩
      go_wp2_with fail
      go_ret
      exact ⟨true, rfl, fun _ => HL.out, hbr⟩

end Go.Proofs.YtceabiodelfdoaaDoor
/- Walk of the law's same. -/
namespace Go.Proofs.YtceabiodelfdoaaDoor
open Go.RowKit

theorem assert_same (W : World) (n : Int) : (Instr.typeAssert (.iface 61 (.int .i64 n)) 27 61 true).run Tryd.prog W = .ok (.tuple #[.int .i64 n, .bool true]) W := by kernel_rfl

set_option maxRecDepth 100000 in
theorem same_ok (c : Nat) (v : Value) (hv : Hid (errV c = v)) (w : World) : Calls Tryd.prog 11 #[v, .int .i64 (c : Int)] w fun e w' => e = .returned (.bool true) ∧ w = w' := by
  by_cases h : c = 0
  · subst h
    have hv' : v = .nilIface := hv.out.symm
    subst hv'
    go_enter Tryd.func11, Tryd.ntmps11
    go_wp2
    go_ret
    exact ⟨rfl, rfl⟩
  · have hv' : v = .iface 61 (.int .i64 (c : Int)) := by rw [← hv.out]; unfold errV; rw [if_neg h]
    subst hv'
    clear hv
    have hpos : (0 : Int) < (c : Int) := by omega
    have ha := fun W => assert_same W (c : Int)
    go_enter Tryd.func11, Tryd.ntmps11
    go_wp2
    go_ret
    exact ⟨rfl, rfl⟩

set_option maxRecDepth 100000 in
theorem errV_some (c : Nat) : ∃ v, Hid (errV c = v) := ⟨_, (rfl : _ = _)⟩

end Go.Proofs.YtceabiodelfdoaaDoor
/- Rows of bytes: what is put behind them. -- s1 -/
namespace Go.Proofs.YtceabiodelfdoaaDoor
open Go.RowKit

/-- a row of bytes that the call made -/
def OwnY (w : World) (B : Nat) (v : Value) (l : List UInt8) : Prop := w.ownsRow B 5 1 v l.length (l.map bv)
theorem ownY_nil (w : World) (B : Nat) : OwnY w B (.slice none 0 0) [] := World.ownsRow_nil _ _ _ _
theorem OwnY.on {w w' : World} {B : Nat} {v : Value} {l : List UInt8} (h : OwnY w B v l) (hb : Below w.heap.size w w') : OwnY w' B v l := own_on2 h hb
theorem OwnY.mono {w : World} {B B' : Nat} {v : Value} {l : List UInt8} (h : OwnY w B v l) (hB : B' ≤ B) : OwnY w B' v l := own_mono h hB
theorem OwnY.any {w : World} {B : Nat} {v : Value} {l : List UInt8} (h : OwnY w B v l) : ∃ a c, v = .slice a l.length c := own_any h
theorem byv_one (l : List UInt8) : ∀ u ∈ l.map bv, u.oneCell' = true := by
  intro u hu
  obtain ⟨b, _, rfl⟩ := List.mem_map.1 hu
  rfl
theorem strCells_bv (s : ByteArray) : Lib.strCells s = s.data.toList.map bv := rfl
theorem by_app {B : Nat} {X : World} {v : Value} {l : List UInt8} (h : OwnY X B v l) (bs : List UInt8) (m : Nat) (hm : bs.length = m) (hl : l.length + m ≤ 1000000000) (hB : B ≤ X.heap.size) :
    ∃ v' w', (Builtin.append_ #[51, 51] 51 #[v, .slice (some ⟨X.heap.size, 0, none⟩) m m]).run Tryd.prog (X.alloc (.cells (bs.map bv).toArray 5)) = .ok v' w' ∧ OwnY w' B v' (l ++ bs) ∧ Below B X w' ∧ (∀ {B' : Nat} {e : TypeId} {sz : Nat} {v0 : Value} {n0 : Nat} {xs : List Value}, e ≠ 5 → X.ownsRow B' e sz v0 n0 xs → w'.ownsRow B' e sz v0 n0 xs) := by
  obtain ⟨i0, hi, hz0, hz1, hz2⟩ := info_parts Tryd.infoByte
  subst hm
  have hx : Below X.heap.size X (X.alloc (.cells (bs.map bv).toArray 5)) := (Below.refl _ _).alloc (Nat.le_refl _) _
  have h1 := own_on2 h hx
  have hs : B ≤ (X.alloc (.cells (bs.map bv).toArray 5)).heap.size := by simp; omega
  obtain ⟨v', w', hrun, r1, r2, _, _⟩ := run_append_own_at (P := Tryd.prog) (X.alloc (.cells (bs.map bv).toArray 5)) B 51 51 5 i0 (.int .u8 0) 1 1 Tryd.underlying51 hi hz0 hz1 hz2 rfl (by decide) v l.length (l.map bv) h1 ⟨X.heap.size, 0, none⟩ bs.length bs.length (bs.map bv) (by simp) (fun j u hj => new_cells X _ _ j u hj) (byv_one bs) (by unfold maxLen; omega) (by omega) hs
  refine ⟨v', w', hrun, ?_, (hx.mono hB).grown r2 hs (fun z hz => (h1.lt z hz).1), fun hne h0 => ?_⟩
  · unfold OwnY
    rw [List.length_append, List.map_append]
    exact r1
  · have h2 := own_on2 h0 hx
    exact h2.kept r2 (apartO h2 h1 hne)
theorem st_app {B : Nat} {X : World} {v : Value} {l : List UInt8} (h : OwnY X B v l) (s : ByteArray) (hl : l.length + s.size ≤ 1000000000) (hB : B ≤ X.heap.size) :
    ∃ v' w', (Builtin.append_ #[51, 9] 51 #[v, .string s]).run Tryd.prog X = .ok v' w' ∧ OwnY w' B v' (l ++ s.data.toList) ∧ Below B X w' := by
  obtain ⟨i0, hi, hz0, hz1, hz2⟩ := info_parts Tryd.infoByte
  obtain ⟨v', w', hrun, r1, r2, _⟩ := Lib.run_append_own_string (P := Tryd.prog) (w := X) B 51 9 51 5 i0 Tryd.underlying51 Tryd.underlying9 hi hz0 hz1 hz2 v l.length (l.map bv) h s (by unfold maxLen; omega) (by omega) hB
  refine ⟨v', w', hrun, ?_, (Below.refl B X).grown r2 hB (fun z hz => (h.lt z hz).1)⟩
  unfold OwnY
  rw [List.length_append, List.map_append]
  have e : s.data.toList.length = s.size := by simp
  rw [e, ← strCells_bv]
  exact r1
theorem by_app2 {B : Nat} {X : World} {v : Value} {l : List UInt8} (h : OwnY X B v l) (bs : List UInt8) (m : Nat) (cs : Array Value) (g : Nat) (hcs : (bs.map bv).toArray = cs) (hg : X.heap.size = g) (hm : bs.length = m) (hl : l.length + m ≤ 1000000000) (hB : B ≤ X.heap.size) :
    ∃ v' w', (Builtin.append_ #[51, 51] 51 #[v, .slice (some ⟨g, 0, none⟩) m m]).run Tryd.prog (X.alloc (.cells cs 5)) = .ok v' w' ∧ OwnY w' B v' (l ++ bs) ∧ Below B X w' ∧ (∀ {B' : Nat} {e : TypeId} {sz : Nat} {v0 : Value} {n0 : Nat} {xs : List Value}, e ≠ 5 → X.ownsRow B' e sz v0 n0 xs → w'.ownsRow B' e sz v0 n0 xs) := by
  subst hcs hg
  exact by_app h bs m hm hl hB
theorem nums_own {w : World} {g B : Nat} (q : Pq) (h : w.heap[g]? = some (.cells #[.int .i64 q.a, .int .i64 q.b, .int .i64 q.c, .int .i64 q.d] 3 (0, 0))) (hB : B ≤ g) (n : Nat) (hn : n ≤ 4) : w.ownsRow B 3 1 (.slice (some ⟨g, 0, none⟩) n 4) n (intCells ((nums4 q).take n)) := by
  refine ⟨by simp [intCells, nums4]; omega, .inr ⟨g, 4, _, rfl, hB, h, hn, by unfold maxLen; omega, rfl, ?_⟩⟩
  rcases (show n = 0 ∨ n = 1 ∨ n = 2 ∨ n = 3 ∨ n = 4 by omega) with rfl | rfl | rfl | rfl | rfl <;> rfl
end Go.Proofs.YtceabiodelfdoaaDoor
/- An op's bytes. -- s1 -/
namespace Go.Proofs.YtceabiodelfdoaaDoor
open Go.RowKit

def idB (id : Int) (b : Bool) : List UInt8 := if b then [UInt8.ofNat id.toNat] else []
def nB (n : Int) : List UInt8 := [UInt8.ofNat ((n + 128) % 256).toNat, UInt8.ofNat ((n + 128) / 256).toNat]
def nsB (ns : List Int) : List UInt8 := ns.flatMap nB
def pcB (q : Pq) (b : Bool) : List UInt8 := if b then picBytes q.pw.toNat q.ph.toNat q.ps else []
/-- an op's bytes, of its kind's parts -/
def opB (q : Pq) (id : Bool) (nums : Nat) (pic : Bool) : List UInt8 := idB q.id id ++ nsB ((nums4 q).take nums) ++ pcB q pic
theorem idB_len (id : Int) (b : Bool) : (idB id b).length ≤ 1 := by unfold idB; split <;> simp
theorem nsB_len : ∀ (ns : List Int), (nsB ns).length = 2 * ns.length := by
  intro ns
  induction ns with
  | nil => rfl
  | cons a r ih =>
    have e : nsB (a :: r) = nB a ++ nsB r := rfl
    rw [e, List.length_append, ih]
    simp [nB]; omega
theorem nsB_snoc (ns : List Int) (n : Int) : nsB (ns ++ [n]) = nsB ns ++ nB n := by simp [nsB]
theorem take_nsB {ns : List Int} {k : Nat} (h : k < ns.length) {n : Int} (hn : ns.getD k 0 = n) : nsB (ns.take (k + 1)) = nsB (ns.take k) ++ nB n := by
  rw [List.take_succ_eq_append_getElem h, nsB_snoc]
  rw [List.getD_eq_getElem?_getD, List.getElem?_eq_getElem h] at hn
  rw [← hn]; rfl

/-- what an op that may be is -/
structure OpOk (q : Pq) (s : Shp) : Prop where
  id : s.id = true → 1 ≤ q.id ∧ q.id ≤ 6
  num : ∀ n ∈ (nums4 q).take s.nums, -20 ≤ n ∧ n ≤ 255
  pic : s.pic = true → checkL q.pw q.ph q.ps = 0
  non : ∀ n ∈ forL q s, n = 0
theorem shps_bounds : ∀ s ∈ shps, -20 ≤ s.low ∧ s.high ≤ 255 := by
  intro s hs
  simp only [shps, List.mem_cons, List.not_mem_nil, or_false] at hs
  rcases hs with rfl | rfl | rfl | rfl | rfl | rfl | rfl | rfl | rfl | rfl | rfl | rfl | rfl | rfl | rfl | rfl <;> exact ⟨by decide, by decide⟩
theorem opC_ok {q : Pq} {s : Shp} (h : opC q = 0) (hk : kindAt q.kind shps = some s) : OpOk q s := by
  unfold opC at h
  rw [hk] at h
  simp only at h
  split at h
  · omega
  rename_i h1
  split at h
  · omega
  rename_i h2
  have h1 : ¬ ∃ n ∈ forL q s, n ≠ 0 := by simpa using h1
  have h2a : ¬ (s.id && (decide (q.id < 1) || decide (6 < q.id))) = true := fun h => h2 (.inl h)
  have h2b : ¬ inB q s = false := fun h => h2 (.inr h)
  refine ⟨fun hi => ?_, fun n hn => ?_, fun hp => ?_, fun n hn => ?_⟩
  · rw [hi] at h2a
    simp at h2a
    omega
  · have hb := shps_bounds s (kindAt_mem _ _ _ hk).1
    unfold inB at h2b
    split at h2b
    · have hr : rectC q.a q.b q.c q.d = 0 := by simpa using h2b
      have hr := (rectC_zero _ _ _ _).1 hr
      have hn4 := List.mem_of_mem_take hn
      simp only [nums4, List.mem_cons, List.not_mem_nil, or_false] at hn4
      rcases hn4 with rfl | rfl | rfl | rfl <;> omega
    · have h3 : ¬ ∃ n ∈ (nums4 q).take s.nums, n < s.low ∨ s.high < n := by simpa using h2b
      have : ¬ (n < s.low ∨ s.high < n) := fun h => h3 ⟨n, hn, h⟩
      omega
  · rw [if_pos hp] at h
    exact h
  · by_cases h0 : n = 0
    · exact h0
    · exact absurd ⟨n, hn, h0⟩ h1
theorem opC_some {q : Pq} (h : opC q = 0) : ∃ s, kindAt q.kind shps = some s := by
  unfold opC at h
  split at h
  · omega
  · exact ⟨_, by assumption⟩
theorem u8_toNat (n : Nat) (h : n < 256) : (UInt8.ofNat n).toNat = n := by rw [UInt8.toNat_ofNat']; omega
theorem two_parts (x : Int) (h1 : -20 ≤ x) (h2 : x ≤ 255) : ∃ N n0 n1 : Nat, n0 < 256 ∧ n1 < 256 ∧ IntKind.i64.wrap (x + 128) = (N : Int) ∧ (N : Int) % 256 = (n0 : Int) ∧ wrap64 ((N : Int) / 256) = (n1 : Int) ∧ (n1 : Int) % 256 = (n1 : Int) ∧ nB x = [UInt8.ofNat n0, UInt8.ofNat n1] := by
  obtain ⟨N, hN⟩ : ∃ N : Nat, x + 128 = (N : Int) := ⟨(x + 128).toNat, by omega⟩
  have hN2 : N ≤ 383 := by omega
  refine ⟨N, N % 256, N / 256, by omega, by omega, ?_, by omega, ?_, by omega, ?_⟩
  · rw [hN, IntKind.wrap_i64]; omega
  · rw [show (N : Int) / 256 = ((N / 256 : Nat) : Int) by omega]; unfold wrap64; omega
  · unfold nB
    rw [hN, show ((N : Int) % 256).toNat = N % 256 by omega, show ((N : Int) / 256).toNat = N / 256 by omega]
end Go.Proofs.YtceabiodelfdoaaDoor
/- Plain lemmas: a chunk that was written is read as it was. -/
namespace Go.Proofs.YtceabiodelfdoaaDoor
namespace Fb

set_option maxRecDepth 100000 in
theorem headL_len (name data : List UInt8) (h : name.length = 4) : (headL name data).length = 6 + data.length := by
  unfold headL pairL; simp [h]; omega

set_option maxRecDepth 100000 in
theorem sealL_len (l : List UInt8) : (sealL l).length = l.length + 2 := by unfold sealL pairL; simp

set_option maxRecDepth 100000 in
theorem headL_take4 (name data : List UInt8) (h : name.length = 4) : (headL name data).take 4 = name := by
  unfold headL; rw [List.append_assoc, List.take_append_of_le_length (by omega), List.take_of_length_le (by omega)]

set_option maxRecDepth 100000 in
theorem headL_drop6 (name data : List UInt8) (h : name.length = 4) : (headL name data).drop 6 = data := by
  unfold headL
  rw [List.drop_append_of_le_length (by unfold pairL; simp [h])]
  rw [List.drop_of_length_le (by unfold pairL; simp [h])]
  rfl

set_option maxRecDepth 100000 in
theorem headL_bytes (name data tail : List UInt8) (h : name.length = 4) :
    (headL name data ++ tail).getD 4 0 = UInt8.ofNat (data.length % 256) ∧ (headL name data ++ tail).getD 5 0 = UInt8.ofNat (data.length / 256) := by
  unfold headL pairL
  constructor
  · rw [List.append_assoc, List.append_assoc, List.getD_eq_getElem?_getD, List.getElem?_append_right (by omega), h]; rfl
  · rw [List.append_assoc, List.append_assoc, List.getD_eq_getElem?_getD, List.getElem?_append_right (by omega), h]; rfl

set_option maxRecDepth 100000 in
theorem endL_head (name data tail : List UInt8) (h : name.length = 4) (hd : data.length ≤ 65535) : endL (headL name data ++ tail) = 6 + data.length := by
  obtain ⟨h4, h5⟩ := headL_bytes name data tail h
  unfold endL
  rw [h4, h5, ofNat_toNat _ (by omega), ofNat_toNat _ (by omega)]
  omega

set_option maxRecDepth 100000 in
/-- what follows the head decides: the two bytes behind it are its sum, or they aren't -/
theorem measure_head (name data tail : List UInt8) (hn : nameB name = true) (hd : data.length ≤ 65535) (ht : 2 ≤ tail.length) :
    measureL (headL name data ++ tail) = if tail.take 2 = pairL (sumL (headL name data)).1 (sumL (headL name data)).2 then (8 + data.length, 0) else (0, 6) := by
  have h4 := nameB_len hn
  have hl : (headL name data ++ tail).length = 6 + data.length + tail.length := by rw [List.length_append, headL_len _ _ h4]
  have he := endL_head name data tail h4 hd
  have htk : (headL name data ++ tail).take 4 = name := by
    rw [List.take_append_of_le_length (by rw [headL_len _ _ h4]; omega), headL_take4 _ _ h4]
  have htk2 : (headL name data ++ tail).take (6 + data.length) = headL name data := by
    rw [List.take_append_of_le_length (by rw [headL_len _ _ h4]; omega), List.take_of_length_le (by rw [headL_len _ _ h4]; omega)]
  have hdr : (headL name data ++ tail).drop (6 + data.length) = tail := by
    rw [List.drop_append_of_le_length (by rw [headL_len _ _ h4]; omega), List.drop_of_length_le (by rw [headL_len _ _ h4]; omega)]; rfl
  unfold measureL
  rw [if_neg, he, hl, if_neg (by omega), htk2, hdr]
  · rw [show 6 + data.length + 2 = 8 + data.length by omega]
  · intro h
    rcases h with h | h
    · rw [hl] at h; omega
    · rw [htk, hn] at h; cases h

set_option maxRecDepth 100000 in
theorem measure_seal (name data rest : List UInt8) (hn : nameB name = true) (hd : data.length ≤ 65535) : measureL (sealL (headL name data) ++ rest) = (8 + data.length, 0) := by
  unfold sealL
  rw [List.append_assoc, measure_head name data _ hn hd (by unfold pairL; simp), if_pos]
  unfold pairL; simp

set_option maxRecDepth 100000 in
theorem first_seal (name data rest : List UInt8) (hn : nameB name = true) (hd : data.length ≤ 65535) : firstL (sealL (headL name data) ++ rest) = (name, data, rest, 0) := by
  have h4 := nameB_len hn
  have hL := headL_len name data h4
  have hS : (sealL (headL name data)).length = 8 + data.length := by rw [sealL_len, hL]; omega
  unfold firstL
  rw [measure_seal name data rest hn hd]
  simp only [if_true]
  have e1 : (sealL (headL name data) ++ rest).take 4 = name := by
    rw [List.take_append_of_le_length (by omega)]
    unfold sealL
    rw [List.take_append_of_le_length (by omega), headL_take4 _ _ h4]
  have e2 : (((sealL (headL name data) ++ rest).take (8 + data.length)).drop 6).take (8 + data.length - 8) = data := by
    have e0 : (sealL (headL name data) ++ rest).take (8 + data.length) = sealL (headL name data) := by
      rw [List.take_append_of_le_length (by omega), List.take_of_length_le (by omega)]
    rw [e0]
    unfold sealL
    rw [List.drop_append_of_le_length (by omega), headL_drop6 _ _ h4, List.take_append_of_le_length (by omega), List.take_of_length_le (by omega)]
  have e3 : (sealL (headL name data) ++ rest).drop (8 + data.length) = rest := by
    rw [List.drop_append_of_le_length (by omega), List.drop_of_length_le (by omega)]; rfl
  rw [e1, e2, e3]

set_option maxRecDepth 100000 in
theorem chunkBytes_ok (name data : List UInt8) (hn : nameB name = true) (hd : data.length ≤ 65535) : chunkBytes name data = (sealL (headL name data), 0) := by
  unfold chunkBytes; rw [if_neg (by rw [hn]; decide), if_neg (by omega)]
set_option maxRecDepth 100000 in
theorem chunkBytes_no (name data : List UInt8) (hn : nameB name = false) : chunkBytes name data = ([], 3) := by
  unfold chunkBytes; rw [if_pos hn]

end Fb
end Go.Proofs.YtceabiodelfdoaaDoor
/- Plain functions and lemmas: chunks one behind the other. -/
namespace Go.Proofs.YtceabiodelfdoaaDoor
namespace Fb

/-- All's answer: chunks, and the number of the error; f: no more rounds than that; n: how many were read -/
def allL (most : Int) : Nat → List UInt8 → Nat → List (List UInt8 × List UInt8) × Nat
  | 0, _, _ => ([], 0)
  | f + 1, l, n =>
    if l = [] then ([], 0) else if most ≤ (n : Int) then ([], 2) else if (measureL l).2 ≠ 0 then ([], (measureL l).2)
    else if (allL most f (l.drop (measureL l).1) (n + 1)).2 ≠ 0 then ([], (allL most f (l.drop (measureL l).1) (n + 1)).2)
    else ((l.take 4, ((l.take (measureL l).1).drop 6).take ((measureL l).1 - 8)) :: (allL most f (l.drop (measureL l).1) (n + 1)).1, 0)

set_option maxRecDepth 100000 in
theorem measure_pos {l : List UInt8} (h : (measureL l).2 = 0) : 8 ≤ (measureL l).1 ∧ (measureL l).1 ≤ l.length := by
  unfold measureL at h ⊢
  split at h
  · simp at h
  · split at h
    · simp at h
    · split at h
      · rename_i h1 h2 h3
        rw [if_neg h1, if_neg h2, if_pos h3]
        have : 6 ≤ endL l := by unfold endL; omega
        simp only
        omega
      · simp at h

set_option maxRecDepth 100000 in
theorem allL_fuel (most : Int) : ∀ (f : Nat) (l : List UInt8) (n : Nat), l.length ≤ f → allL most f l n = allL most l.length l n := by
  intro f
  induction f using Nat.strongRecOn with
  | _ f ih =>
    intro l n hl
    match f, hl, ih with
    | 0, hl, _ => rw [show l.length = 0 by omega]
    | f + 1, hl, ih =>
      cases hll : l with
      | nil => simp [allL]
      | cons x r =>
        rw [← hll]
        have hlen : l.length = r.length + 1 := by rw [hll]; rfl
        rw [hlen, allL, allL]
        by_cases hm : (measureL l).2 = 0
        · obtain ⟨h8, hle⟩ := measure_pos hm
          have hd : (l.drop (measureL l).1).length ≤ r.length := by rw [List.length_drop]; omega
          rw [ih f (by omega) _ (n + 1) (by omega), ih r.length (by omega) _ (n + 1) hd]
        · simp [hm]

/-- what has been read, and the rest's answer -/
def comb (cs : List (List UInt8 × List UInt8)) (r : List (List UInt8 × List UInt8) × Nat) : List (List UInt8 × List UInt8) × Nat :=
  if r.2 ≠ 0 then ([], r.2) else (cs ++ r.1, 0)

/-- All's answer of all bytes -/
def allOf (most : Int) (l : List UInt8) (n : Nat) : List (List UInt8 × List UInt8) × Nat := allL most l.length l n

set_option maxRecDepth 100000 in
theorem allOf_nil (most : Int) (n : Nat) : allOf most [] n = ([], 0) := rfl
set_option maxRecDepth 100000 in
theorem allOf_many (most : Int) (l : List UInt8) (n : Nat) (h : l ≠ []) (hm : most ≤ (n : Int)) : allOf most l n = ([], 2) := by
  unfold allOf
  cases l with
  | nil => exact absurd rfl h
  | cons x r => rw [List.length_cons, allL, if_neg (by simp), if_pos hm]
set_option maxRecDepth 100000 in
theorem allOf_err (most : Int) (l : List UInt8) (n : Nat) (h : l ≠ []) (hm : ¬ most ≤ (n : Int)) (he : (measureL l).2 ≠ 0) : allOf most l n = ([], (measureL l).2) := by
  unfold allOf
  cases l with
  | nil => exact absurd rfl h
  | cons x r => rw [List.length_cons, allL, if_neg (by simp), if_neg hm, if_pos he]
set_option maxRecDepth 100000 in
theorem allOf_step (most : Int) (l : List UInt8) (n : Nat) (h : l ≠ []) (hm : ¬ most ≤ (n : Int)) (he : (measureL l).2 = 0) :
    allOf most l n = comb [(l.take 4, ((l.take (measureL l).1).drop 6).take ((measureL l).1 - 8))] (allOf most (l.drop (measureL l).1) (n + 1)) := by
  obtain ⟨h8, hle⟩ := measure_pos he
  unfold allOf comb
  cases hll : l with
  | nil => exact absurd hll h
  | cons x r =>
    rw [← hll]
    have hlen : l.length = r.length + 1 := by rw [hll]; rfl
    rw [hlen, allL, if_neg h, if_neg hm, if_neg (by omega)]
    rw [allL_fuel most r.length _ (n + 1) (by rw [List.length_drop]; omega)]
    rfl

set_option maxRecDepth 100000 in
theorem comb_comb (a b : List (List UInt8 × List UInt8)) (r : List (List UInt8 × List UInt8) × Nat) : comb a (comb b r) = comb (a ++ b) r := by
  unfold comb
  by_cases h : r.2 = 0
  · simp [h]
  · simp [h]

set_option maxRecDepth 100000 in
theorem allL_err (most : Int) (f : Nat) (l : List UInt8) (n : Nat) (h : (allL most f l n).2 ≠ 0) : (allL most f l n).1 = [] := by
  cases f with
  | zero => rfl
  | succ f =>
    rw [allL] at h ⊢
    by_cases h1 : l = []
    · simp [h1]
    · rw [if_neg h1] at h ⊢
      by_cases h2 : most ≤ (n : Int)
      · simp [h2]
      · rw [if_neg h2] at h ⊢
        by_cases h3 : (measureL l).2 = 0
        · rw [if_neg (by omega)] at h ⊢
          by_cases h4 : (allL most f (l.drop (measureL l).1) (n + 1)).2 = 0
          · rw [if_neg (by omega)] at h; simp at h
          · rw [if_pos h4]
        · rw [if_pos h3]

set_option maxRecDepth 100000 in
theorem comb_nil (most : Int) (l : List UInt8) (n : Nat) : comb [] (allOf most l n) = allOf most l n := by
  unfold comb
  by_cases h : (allOf most l n).2 = 0
  · rw [if_neg (by omega), List.nil_append, ← h]
  · rw [if_pos h]
    have := allL_err most l.length l n h
    unfold allOf
    rw [← this]

/-- the bytes of chunks one behind the other -/
def catL : List (List UInt8 × List UInt8) → List UInt8
  | [] => []
  | (n, d) :: r => sealL (headL n d) ++ catL r

set_option maxRecDepth 100000 in
theorem allOf_cat (most : Int) (cs : List (List UInt8 × List UInt8)) : ∀ n : Nat, (∀ p ∈ cs, nameB p.1 = true ∧ p.2.length ≤ 65535) →
    allOf most (catL cs) n = if cs = [] ∨ ((n : Int) + cs.length ≤ most) then (cs, 0) else ([], 2) := by
  induction cs with
  | nil => intro n _; simp [catL, allOf_nil]
  | cons p r ih =>
    intro n hp
    obtain ⟨nm, d⟩ := p
    obtain ⟨hn, hd⟩ := hp (nm, d) (by simp)
    simp only at hn hd
    have ih2 := ih (n + 1) (fun q hq => hp q (by simp [hq]))
    have hne : catL ((nm, d) :: r) ≠ [] := by
      intro e
      have := congrArg List.length e
      simp only [catL, List.length_append, sealL_len, List.length_nil] at this
      omega
    by_cases hm : most ≤ (n : Int)
    · rw [allOf_many _ _ _ hne hm, if_neg]
      intro h
      rcases h with h | h
      · cases h
      · simp only [List.length_cons] at h; omega
    · have hms := measure_seal nm d (catL r) hn hd
      have hfs := first_seal nm d (catL r) hn hd
      rw [allOf_step _ _ _ hne hm (by simp only [catL]; rw [hms])]
      unfold firstL at hfs
      rw [hms] at hfs
      simp only [if_true, Prod.mk.injEq] at hfs
      simp only [catL]
      rw [hms]
      simp only
      rw [hfs.1, hfs.2.1, hfs.2.2.1, ih2]
      unfold comb
      by_cases hr : r = [] ∨ ((n : Int) + 1 + r.length ≤ most)
      · have h1 : r = [] ∨ (((n + 1 : Nat) : Int) + r.length ≤ most) := by rcases hr with h | h; exact .inl h; right; omega
        have h2 : (nm, d) :: r = [] ∨ ((n : Int) + ((nm, d) :: r).length ≤ most) := by
          right
          rcases hr with h | h
          · subst h; simp; omega
          · simp only [List.length_cons]; omega
        rw [if_pos h1, if_pos h2]
        simp
      · have h1 : ¬ (r = [] ∨ (((n + 1 : Nat) : Int) + r.length ≤ most)) := by
          intro h; apply hr; rcases h with h | h; exact .inl h; right; omega
        have h2 : ¬ ((nm, d) :: r = [] ∨ ((n : Int) + ((nm, d) :: r).length ≤ most)) := by
          intro h
          rcases h with h | h
          · cases h
          · apply hr; right; simp only [List.length_cons] at h; omega
        rw [if_neg h1, if_neg h2]
        simp

end Fb
end Go.Proofs.YtceabiodelfdoaaDoor
/- Walk of chunk.All. -/
namespace Go.Proofs.YtceabiodelfdoaaDoor
open Go.RowKit

theorem Tryd.infoChunk : (Tryd.prog.info? 66).map (fun i => (i.zero, i.size, i.bytes)) = some (some (.agg #[.string ⟨#[]⟩, .string ⟨#[]⟩]), 2, 32) := by kernel_rfl

/-- the cells of chunks -/
def chunkCells : List (List UInt8 × List UInt8) → List Value
  | [] => []
  | (n, d) :: r => str n :: str d :: chunkCells r

set_option maxRecDepth 100000 in
theorem chunkCells_append (a b : List (List UInt8 × List UInt8)) : chunkCells (a ++ b) = chunkCells a ++ chunkCells b := by
  induction a with
  | nil => rfl
  | cons p a ih => obtain ⟨n, d⟩ := p; simp [chunkCells, ih]

set_option maxRecDepth 100000 in
theorem two_strs (w : World) (T : TypeId) (x y : ByteArray) : ∀ j u, [Value.string x, .string y][j]? = some u → (w.alloc (.cells #[.string x, .string y] T)).cell? ((⟨w.heap.size, 0, none⟩ : Addr).add j) = some u := by
  intro j u hj
  match j, hj with
  | 0, hj => simp at hj; subst hj; simp [Addr.add]
  | 1, hj => simp at hj; subst hj; simp [Addr.add]
  | j + 2, hj => simp at hj
set_option maxRecDepth 100000 in
theorem two_strs_one (x y : ByteArray) : ∀ u ∈ [Value.string x, .string y], u.oneCell' = true := by
  intro u hu; simp at hu; rcases hu with rfl | rfl <;> rfl

set_option maxRecDepth 100000 in
theorem grown_below {W W' : World} (h : Below W.heap.size W W') : W.grownBy W' none := ⟨h.os, h.tape, h.output, h.size, fun k hk _ => h.block k hk⟩
set_option maxRecDepth 100000 in
theorem own_on {W W' : World} {B : Nat} {e : TypeId} {size : Nat} {v : Value} {n : Nat} {xs : List Value} (h : W.ownsRow B e size v n xs) (hb : Below W.heap.size W W') : W'.ownsRow B e size v n xs :=
  h.kept (grown_below hb) (by cases hv : v.ownBlock <;> simp)

set_option maxHeartbeats 4000000 in
set_option maxRecDepth 100000 in
theorem all_any (s : ByteArray) (most : Int) (w : World) (hs : s.size ≤ 1000000) (hm0 : -9223372036854775808 ≤ most) (hm1 : most ≤ 9223372036854775807) (cs : List (List UInt8 × List UInt8)) (c : Nat) (HZ : Hid (Fb.allOf most s.data.toList 0 = (cs, c))) :
    Calls Tryd.prog 23 #[.string s, .int .i64 most] w fun e w' => ∃ v, e = .returned (.tuple #[v, errV c]) ∧ w'.ownsRow w.heap.size 66 2 v cs.length (chunkCells cs) ∧ Below w.heap.size w w' := by
  obtain ⟨i0, hi, hz0, hz1, hz2⟩ := info_parts Tryd.infoChunk
  go_enter Tryd.func23, Tryd.ntmps23
  go_wp2
  go_loopw [0, 6] (fun x v wr => ∃ (t : ByteArray) (rs : List (List UInt8 × List UInt8)), x = .string t ∧ t.size + 8 * rs.length ≤ 1000000 ∧ wr.ownsRow w.heap.size 66 2 v rs.length (chunkCells rs) ∧ Below w.heap.size w wr ∧ Hid ((cs, c) = Fb.comb rs (Fb.allOf most t.data.toList rs.length))) (fun x _ _ => match x with | .string t => t.size | _ => 0)
  case atStart => exact ⟨s, [], rfl, by simpa using hs, World.ownsRow_nil _ _ _ _, Below.refl _ _, by unfold Hid; rw [← HZ.out]; exact (Fb.comb_nil _ _ _).symm⟩
  case round =>
    obtain ⟨t, rs, rfl, hsz, hown, hb, HK⟩ := hrel
    have HL : Hid (t.data.toList.length = t.size) := by unfold Hid; simp
    obtain ⟨ao, cp, hv⟩ := own_any hown
    by_cases hpos : 0 < t.size
    · have HNE : Hid (t.data.toList ≠ []) := by unfold Hid; intro e; have := HL.out; rw [e] at this; simp at this; omega
      by_cases hmany : most ≤ rs.length
      · have HC : Hid ((cs, c) = ([], 2)) := by unfold Hid; rw [HK.out, Fb.allOf_many _ _ _ HNE.out hmany]; rfl
        rw [hv]
        go_wp2_with fail
        go_ret2
        have e1 : cs = [] := congrArg Prod.fst HC.out
        have e2 : c = 2 := congrArg Prod.snd HC.out
        subst e1 e2
        exact ⟨_, rfl, World.ownsRow_nil _ _ _ _, hb⟩
      · obtain ⟨z, HM⟩ : ∃ z, Hid (Fb.measureL t.data.toList = z) := ⟨_, (rfl : _ = _)⟩
        obtain ⟨n, mc⟩ := z
        by_cases hmc : mc = 0
        · subst hmc
          have hfit := measure_fit HM.out
          rw [HL.out] at hfit
          obtain ⟨hn8, hns⟩ := hfit
          obtain ⟨x, HX⟩ : ∃ x, Hid ((t.extract 0 n).extract 0 4 = x) := ⟨_, (rfl : _ = _)⟩
          obtain ⟨y, HY⟩ : ∃ x, Hid ((t.extract 0 n).extract 6 (n - 2) = x) := ⟨_, (rfl : _ = _)⟩
          have HXS : Hid (str (t.data.toList.take 4) = .string x) := by
            unfold Hid
            rw [← HX.out, ← str_ext (t.extract 0 n) 0 4, ext_data]
            simp only [List.drop_zero, Nat.sub_zero, List.take_take]
            rw [Nat.min_eq_left (by omega)]
          have HYS : Hid (str (((t.data.toList.take n).drop 6).take (n - 8)) = .string y) := by
            unfold Hid
            rw [← HY.out, ← str_ext (t.extract 0 n) 6 (n - 2), ext_data]
            simp only [List.drop_zero, Nat.sub_zero]
            rw [show n - 2 - 6 = n - 8 by omega]
          obtain ⟨p, HP⟩ : ∃ p, Hid ((t.data.toList.take 4, ((t.data.toList.take n).drop 6).take (n - 8)) = p) := ⟨_, (rfl : _ = _)⟩
          have HN : Hid ((cs, c) = Fb.comb (rs ++ [p]) (Fb.allOf most (t.data.toList.drop n) (rs ++ [p]).length)) := by
            unfold Hid
            rw [HK.out, Fb.allOf_step _ _ _ HNE.out hmany (by rw [HM.out]), HM.out, Fb.comb_comb, ← HP.out]
            simp
          have HPC : Hid (chunkCells (rs ++ [p]) = chunkCells rs ++ [.string x, .string y]) := by
            unfold Hid; rw [chunkCells_append, ← HP.out]; unfold chunkCells; rw [HXS.out, HYS.out]; rfl
          have hxx := ext_size t (show t.size ≤ 1000000 by omega)
          have hx0 : (t.extract 0 n).size = n := by rw [ByteArray.size_extract]; omega
          have HOP : Hid (∀ W, Calls Tryd.prog 40 #[.string (t.extract 0 n)] W fun e w' => e = .returned (.agg #[.string x, .string y]) ∧ Below W.heap.size W w') := by
            unfold Hid
            intro W
            have := open_any (t.extract 0 n) W (hxx _ _) (by omega)
            rw [hx0, HX.out, HY.out] at this
            exact this
          clear hx0 hxx
          have HTE : Hid ((t.extract n t.size).data.toList = t.data.toList.drop n) := by
            unfold Hid; rw [ext_data, List.take_of_length_le (by rw [List.length_drop, HL.out]; omega)]
          have HTS : Hid ((t.extract n t.size).size = t.size - n) := by unfold Hid; rw [ByteArray.size_extract]; omega
          have hi1 : (n : Int) ≤ (t.size : Int) := by omega
          rw [hv] at hown
          rw [hv]
          go_wp2_with fail
          refine (measure_at t _ (by omega) n 0 .nilIface HM rfl).mono ?_
          rintro e w1 ⟨rfl, hb1⟩
          have hown1 := own_on hown hb1
          have hbb1 : Below w.heap.size w w1 := hb.trans (hb1.mono hb.size)
          go_wp2_with fail
          refine (HOP.out _).mono ?_
          rintro e w2 ⟨rfl, hb2⟩
          have hown2 := own_on hown1 hb2
          have hbb2 : Below w.heap.size w w2 := hbb1.trans (hb2.mono hbb1.size)
          go_wp2_with (at_builtin; refine wpList_append_own _ rfl _ _ 62 rfl w.heap.size 66 i0 (.agg #[.string ⟨#[]⟩, .string ⟨#[]⟩]) 2 32 Tryd.underlying62 hi hz0 hz1 hz2 rfl (by decide) _ _ _ rfl (hown2.alloc _) ⟨w2.heap.size, 0, none⟩ 1 1 [.string x, .string y] rfl rfl ?c1 ?c2 ?c3 ?c4 ?c5 ?_)
          case c1 => exact two_strs _ _ _ _
          case c2 => exact two_strs_one _ _
          case c3 => unfold maxLen; omega
          case c4 => omega
          case c5 => have := hbb2.size; simp; omega
          · intro v' w3 hown' hgrow _
            have hb3 : Below w.heap.size w w3 := below_app hbb2 hown2 hgrow
            have hown3 : w3.ownsRow w.heap.size 66 2 v' (rs ++ [p]).length (chunkCells (rs ++ [p])) := by
              rw [HPC.out]; simpa using hown'
            clear hown' hgrow
            go_wp2
            go_roundw
            case rel => exact ⟨t.extract n t.size, rs ++ [p], rfl, by rw [HTS.out]; simp; omega, hown3, hb3, by unfold Hid; rw [HTE.out]; exact HN.out⟩
            case measure => simp only []; rw [HTS.out]; omega
        · have HE : Hid (errV mc = .iface 61 (.int .i64 (mc : Int))) := by unfold Hid errV; rw [if_neg hmc]
          have HC : Hid ((cs, c) = ([], mc)) := by
            unfold Hid; rw [HK.out, Fb.allOf_err _ _ _ HNE.out hmany (by rw [HM.out]; exact hmc), HM.out]; unfold Fb.comb; rw [if_pos hmc]
          rw [hv]
          go_wp2_with fail
          refine (measure_at t _ (by omega) n mc _ HM HE).mono ?_
          rintro e w1 ⟨rfl, hb1⟩
          go_wp2_with fail
          go_ret2
          have e1 : cs = [] := congrArg Prod.fst HC.out
          have e2 : c = mc := congrArg Prod.snd HC.out
          subst e1 e2
          exact ⟨_, by rw [HE.out]; rfl, World.ownsRow_nil _ _ _ _, hb.trans (hb1.mono hb.size)⟩
    · have hl0 : t.data.toList = [] := List.eq_nil_of_length_eq_zero (by rw [HL.out]; omega)
      have HC : Hid ((cs, c) = (rs, 0)) := by unfold Hid; rw [HK.out, hl0, Fb.allOf_nil]; simp [Fb.comb]
      clear hl0
      go_wp2_with fail
      go_ret2
      have e1 : cs = rs := congrArg Prod.fst HC.out
      have e2 : c = 0 := congrArg Prod.snd HC.out
      subst e1 e2
      exact ⟨_, rfl, hown, hb⟩
end Go.Proofs.YtceabiodelfdoaaDoor
/- Walk of the law TopAll. -/
namespace Go.Proofs.YtceabiodelfdoaaDoor
open Go.RowKit

/-- a list of texts that came in: nil, or a row of texts -/
def IsStrs (w : World) (a : Option Addr) (len cap : Nat) (ss : List ByteArray) : Prop :=
  (a = none ∧ len = 0 ∧ cap = 0 ∧ ss = []) ∨
  ∃ x : Addr, a = some x ∧ len ≤ cap ∧ cap ≤ maxLen ∧ ss.length = cap ∧ (∀ i, i < ss.length → w.cell? (x.add i) = some (.string (ss.getD i ByteArray.empty))) ∧ (∀ s ∈ ss, s.size ≤ maxLen)

set_option maxRecDepth 100000 in
theorem strs_at {w : World} {a : Option Addr} {len cap : Nat} {ss : List ByteArray} (H : IsStrs w a len cap ss) (h : 0 < len) :
    ∃ b off, a = some ⟨b, off, none⟩ ∧ b < w.heap.size ∧ (∀ i, i < len → w.cell? ⟨b, off + i, none⟩ = some (.string (ss.getD i ByteArray.empty))) ∧ (∀ i, (ss.getD i ByteArray.empty).size ≤ 9223372036854775807) := by
  rcases H with ⟨_, h0, _⟩ | ⟨x, ha, hl, hm, hs, hc, hz⟩
  · omega
  · obtain ⟨b, off, spot⟩ := x
    have h0 := hc 0 (by omega)
    have hspot : spot = none := by simpa [Addr.add] using World.cell?_spot h0
    subst hspot
    have hlt := World.block_lt_of_cell? w _ h0
    have hadd : ∀ i, (⟨b, off, none⟩ : Addr).add i = ⟨b, off + i, none⟩ := fun i => by unfold Addr.add; split <;> simp_all
    refine ⟨b, off, ha, by simpa [Addr.add] using hlt, fun i hi => by rw [← hadd]; exact hc i (by omega), fun i => ?_⟩
    rw [List.getD_eq_getElem?_getD]
    by_cases hi : i < ss.length
    · rw [List.getElem?_eq_getElem hi]
      have := hz ss[i] (List.getElem_mem hi)
      unfold maxLen at this
      simp only [Option.getD_some]
      omega
    · rw [List.getElem?_eq_none (by omega)]; decide

set_option maxRecDepth 100000 in
theorem strs_len {w : World} {a : Option Addr} {len cap : Nat} {ss : List ByteArray} (H : IsStrs w a len cap ss) : len ≤ 9223372036854775807 := by
  rcases H with ⟨_, h0, _⟩ | ⟨x, ha, hl, hm, _⟩
  · omega
  · unfold maxLen at hm; omega

set_option maxRecDepth 100000 in
theorem catL_snoc (cs : List (List UInt8 × List UInt8)) (n d : List UInt8) : Fb.catL (cs ++ [(n, d)]) = Fb.catL cs ++ Fb.sealL (Fb.headL n d) := by
  induction cs with
  | nil => simp [Fb.catL]
  | cons p r ih => obtain ⟨a, b⟩ := p; simp [Fb.catL, ih]

set_option maxRecDepth 100000 in
theorem cells_at (cs : List (List UInt8 × List UInt8)) (n d : List UInt8) : ∀ k, cs[k]? = some (n, d) → (chunkCells cs)[k * 2]? = some (str n) ∧ (chunkCells cs)[k * 2 + 1]? = some (str d) := by
  induction cs with
  | nil => intro k h; simp at h
  | cons p r ih =>
    intro k h
    obtain ⟨a, b⟩ := p
    cases k with
    | zero => simp at h; obtain ⟨rfl, rfl⟩ := h; simp [chunkCells]
    | succ k =>
      simp at h
      have := ih k h
      rw [show (k + 1) * 2 = k * 2 + 2 by omega]
      simpa [chunkCells] using this

set_option maxRecDepth 100000 in
theorem cat_len (cs : List (List UInt8 × List UInt8)) (h : ∀ p ∈ cs, Fb.nameB p.1 = true ∧ p.2.length ≤ 100) : (Fb.catL cs).length ≤ 108 * cs.length := by
  induction cs with
  | nil => simp [Fb.catL]
  | cons p r ih =>
    obtain ⟨a, b⟩ := p
    have h1 := ih (fun q hq => h q (by simp [hq]))
    have h2 := h (a, b) (by simp)
    simp only [Fb.catL, List.length_append, List.length_cons]
    rw [Fb.sealL_len, Fb.headL_len _ _ (Fb.nameB_len h2.1)]
    have := h2.2
    simp only at this
    omega

set_option maxRecDepth 100000 in
theorem bytes_at (n d : ByteArray) (w : World) (hn : n.size ≤ 9223372036854775807) (hd : d.size ≤ 9223372036854775807) (x v : Value) (l : List UInt8) (c : Nat)
    (HZ : Hid (Fb.chunkBytes n.data.toList d.data.toList = (l, c))) (HX : Hid (str l = x)) (HV : Hid (errV c = v)) :
    Calls Tryd.prog 34 #[.agg #[.string n, .string d]] w fun e w' => e = .returned (.tuple #[x, v]) ∧ Below w.heap.size w w' := by
  have h := bytes_any n d w hn hd
  rw [HZ.out] at h
  rw [← HX.out, ← HV.out]
  exact h

set_option maxRecDepth 100000 in
theorem all_at (s : ByteArray) (most : Int) (w : World) (hs : s.size ≤ 1000000) (hm0 : -9223372036854775808 ≤ most) (hm1 : most ≤ 9223372036854775807) (cs : List (List UInt8 × List UInt8)) (c : Nat) (u : Value) (HZ : Hid (Fb.allOf most s.data.toList 0 = (cs, c))) (HU : Hid (errV c = u)) :
    Calls Tryd.prog 23 #[.string s, .int .i64 most] w fun e w' => ∃ v, e = .returned (.tuple #[v, u]) ∧ w'.ownsRow w.heap.size 66 2 v cs.length (chunkCells cs) ∧ Below w.heap.size w w' := by
  rw [← HU.out]; exact all_any s most w hs hm0 hm1 cs c HZ

end Go.Proofs.YtceabiodelfdoaaDoor
/- Walk of the law TopChunk. -/
namespace Go.Proofs.YtceabiodelfdoaaDoor
open Go.RowKit

end Go.Proofs.YtceabiodelfdoaaDoor
/- Walks of the reference's Unpacked and Packed, and of the law's same. -/
namespace Go.Proofs.YtceabiodelfdoaaDoor
open Go.RowKit

set_option maxHeartbeats 1000000 in
set_option maxRecDepth 100000 in
theorem unpacked_any (s : ByteArray) (most : Int) (w : World) (hs : s.size ≤ 1000000) (hm0 : -9223372036854775808 ≤ most) (hm1 : most ≤ 9223372036854775807) :
    Calls Tryd.prog 69 #[.string s, .int .i64 most] w fun e w' => e = .returned (.tuple #[str (Fb.unpack s.data.toList most).1, .int .i64 ((Fb.unpack s.data.toList most).2 : Nat)]) ∧ w = w' := by
  have HL : Hid (s.data.toList.length = s.size) := by unfold Hid; simp
  by_cases hev : s.size % 2 = 1
  · have hd : (((s.size : Int) % 2) == 1) = true := by rw [beq_iff_eq]; omega
    have HU : Hid (Fb.unpack s.data.toList most = ([], 4)) := by unfold Hid Fb.unpack Fb.szAll; rw [HL.out, if_pos hev]; rfl
    go_enter Tryd.func69, Tryd.ntmps69
    go_wp2
    go_ret2
    exact ⟨by rw [HU.out]; rfl, rfl⟩
  · have hd : (((s.size : Int) % 2) == 1) = false := by rw [beq_eq_false_iff_ne]; omega
    have HU : Hid (Fb.unpack s.data.toList most = if (Fb.sz most s.data.toList 0).2 = 0 then (Fb.unp s.data.toList, 0) else ([], (Fb.sz most s.data.toList 0).2)) := by
      unfold Hid Fb.unpack Fb.szAll; rw [HL.out, if_neg hev]
    go_enter Tryd.func69, Tryd.ntmps69
    go_wp2
    go_loop [6, 7] (fun v i => ∃ (k : Nat) (ob : ByteArray) (o : List UInt8), 2 * k ≤ s.size ∧ i = .int .i64 (2 * k : Nat) ∧ v = .string ob ∧ Hid (ob.data.toList = o) ∧ ob.size ≤ 255 * k ∧ (ob.size = 0 ∨ (ob.size : Int) ≤ most) ∧ Hid (Fb.sz most s.data.toList 0 = Fb.sz most (s.data.toList.drop (2 * k)) ob.size) ∧ Hid (Fb.unp s.data.toList = o ++ Fb.unp (s.data.toList.drop (2 * k)))) (fun _ i => s.size - (intOf i).toNat)
    case atStart => exact ⟨0, ⟨#[]⟩, [], by omega, rfl, rfl, rfl, by decide, .inl rfl, rfl, rfl⟩
    case round =>
      obtain ⟨k, ob, o, hk, rfl, rfl, HOB, hob, hobm, HK, HP⟩ := hrel
      by_cases hlt : 2 * k < s.size
      · have hL := HL.out
        have hk1 : 2 * k + 1 < s.data.toList.length := by omega
        clear hL
        obtain ⟨c, HC⟩ : ∃ c, Hid (s.data.toList.getD (2 * k) 0 = c) := ⟨_, (rfl : _ = _)⟩
        obtain ⟨m, HM⟩ : ∃ m, Hid (c.toNat = m) := ⟨_, (rfl : _ = _)⟩
        obtain ⟨d, HD⟩ : ∃ d, Hid (s.data.toList.getD (2 * k + 1) 0 = d) := ⟨_, (rfl : _ = _)⟩
        have hix := nat_at s (2 * k) c HC m HM
        have hlt2 : 2 * k + 1 < s.size := by omega
        have hcb := byte_le c m HM
        have HST : Hid (Fb.unp (s.data.toList.drop (2 * k)) = List.replicate m d ++ Fb.unp (s.data.toList.drop (2 * (k + 1)))) := unp_step _ k c HC m HM d HD hk1
        by_cases h0 : m = 0
        · have HZ := sz_zero most _ k ob.size c HC m HM hk1 h0
          clear hk1
          subst h0
          go_wp2
          go_ret2
          exact ⟨by rw [HU.out, HK.out, HZ.out]; rfl, rfl⟩
        · by_cases h1 : most < ob.size + m
          · have HZ := sz_many most _ k ob.size c HC m HM hk1 h0 (by omega)
            clear hk1
            have h0' : ((m : Int) == 0) = false := by rw [beq_eq_false_iff_ne]; omega
            go_wp2
            go_ret2
            exact ⟨by rw [HU.out, HK.out, HZ.out]; rfl, rfl⟩
          · have HZ := sz_step most _ k ob.size c HC m HM hk1 h0 (by omega)
            clear hk1
            have h0' : ((m : Int) == 0) = false := by rw [beq_eq_false_iff_ne]; omega
            go_wp2
            go_loop [6, 8] (fun v i => ∃ (j : Nat) (oj : ByteArray), j ≤ m ∧ i = .int .i64 j ∧ v = .string oj ∧ oj.size = ob.size + j ∧ Hid (oj.data.toList = o ++ List.replicate j d)) (fun _ i => m - (intOf i).toNat)
            case atStart => exact ⟨0, ob, by omega, rfl, rfl, rfl, by unfold Hid; rw [HOB.out]; simp⟩
            case round =>
              obtain ⟨j, oj, hj, rfl, rfl, hojs, HJ⟩ := hrel
              have hojs2 : oj.size ≤ 255 * k + 255 := by omega
              have HSJ : Hid (oj.size = ob.size + j) := hojs
              clear hojs
              by_cases hjm : j < m
              · have HEX : Hid (s.extract (2 * k + 1) (2 * k + 2) = ⟨#[d]⟩) := by unfold Hid; rw [ext_one s (2 * k + 1) hlt2, HD.out]
                go_wp2
                go_round
                case rel => exact ⟨j + 1, oj ++ ⟨#[d]⟩, by omega, by go_num, by rw [HEX.out], by rw [add_size, HSJ.out]; omega, by unfold Hid; rw [add_data, HJ.out, List.replicate_succ', List.append_assoc]⟩
                case measure => simp [intOf]; omega
              · have hje : j = m := by omega
                subst hje
                go_wp2
                go_round
                case rel => exact ⟨k + 1, oj, o ++ List.replicate j d, by omega, by go_num, rfl, HJ, by rw [HSJ.out]; omega, .inr (by rw [HSJ.out]; omega), by unfold Hid; rw [HK.out, HZ.out, HSJ.out], by unfold Hid; rw [HP.out, HST.out, List.append_assoc]⟩
                case measure => simp [intOf]; omega
      · go_wp2
        go_ret2
        have e0 : Fb.sz most s.data.toList 0 = (ob.size, 0) := by rw [HK.out]; exact sz_end _ _ _ _ (by rw [HL.out]; omega)
        have e1 : Fb.unp s.data.toList = o := by rw [HP.out, unp_end _ _ (by rw [HL.out]; omega), List.append_nil]
        have e2 : Fb.unpack s.data.toList most = (o, 0) := by rw [HU.out, e0, e1]; rfl
        exact ⟨ret2 (by rw [e2, ← HOB.out]; exact (str_self ob).symm) (by rw [e2]; rfl), rfl⟩
end Go.Proofs.YtceabiodelfdoaaDoor
