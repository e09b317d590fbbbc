/- Walk of picture.shortest. -/
import Derived.Test.YtfhfedcamcpceaaDoorPicDJ
import Derived.Lib.Strings
namespace Go.Proofs.YtfhfedcamcpceaaDoor
open Go.RowKit

set_option maxRecDepth 100000 in
theorem run_one1 (W : World) (B : Nat) (a : Int) (x : UInt8) (ha : Hid ((x.toNat : Int) = a)) (hc : W.cell? ⟨B, 0, none⟩ = some (.int .u8 a)) :
    (convert 59 9 (.slice (some ⟨B, 0, none⟩) 1 1)).run Tryd.prog W = .ok (.string ⟨#[x]⟩) W := by
  refine run_convert_bytes_back _ 59 9 5 ⟨B, 0, none⟩ 1 [x] Tryd.underlying59 Tryd.underlying5 Tryd.underlying9 ?_
  intro j hj
  match j, hj with
  | 0, _ => rw [← ha.out] at hc; simpa [Addr.add] using hc

set_option maxRecDepth 100000 in
theorem tell_at (way : Nat) (hway : way < 4) (v u : Value) (row ab : List UInt8) (w : World) (hne : row ≠ []) (hlen : row.length ≤ 1000) (HR : RdB w v row) (HA : RdB w u ab) (t : ByteArray) (HT : Hid (Fb.tellL way row ab = t.data.toList)) :
    Calls Tryd.prog 72 #[.int .i64 (way : Int), v, u] w fun e w' => e = .returned (.string t) ∧ Below w.heap.size w w' := by
  have h := tell_any way hway v u row ab w hne hlen HR HA
  rw [HT.out, str_self] at h
  exact h
set_option maxRecDepth 100000 in
theorem pack_len (s : ByteArray) (w : World) (hs : s.size ≤ 1000000) (t : ByteArray) (HT : Hid (Fb.packL s.data.toList = t.data.toList)) :
    Calls Tryd.prog 53 #[.string s] w fun e w' => e = .returned (.string t) ∧ Below w.heap.size w w' := by
  have h := pack_any s w hs
  rw [HT.out, str_self] at h
  exact h

set_option maxRecDepth 100000 in
theorem bytes_of (l : List UInt8) : ∃ t : ByteArray, Hid (l = t.data.toList) := ⟨⟨l.toArray⟩, by unfold Hid; simp⟩
set_option maxRecDepth 100000 in
theorem size_of {l : List UInt8} {t : ByteArray} (h : Hid (l = t.data.toList)) : t.size = l.length := by rw [h.out]; simp

set_option maxRecDepth 100000 in
theorem cons_data (x : UInt8) (t : ByteArray) : ((⟨#[x]⟩ : ByteArray) ++ t).data.toList = x :: t.data.toList := by
  rw [ByteArray.data_append]; simp

set_option maxRecDepth 100000 in
theorem best_step (row ab : List UInt8) (k : Nat) : Fb.bestTo row ab (k + 1) = if (Fb.packL (Fb.tellL k row ab)).length < (Fb.packL (Fb.tellL (Fb.bestTo row ab k) row ab)).length ∧ k ≠ 0 then k else Fb.bestTo row ab k := rfl

set_option maxHeartbeats 2000000 in
set_option maxRecDepth 100000 in
theorem shortest_any (v u : Value) (row ab : List UInt8) (w : World) (hne : row ≠ []) (hlen : row.length ≤ 1000) (HR : Hid (RdB w v row)) (HA : Hid (RdB w u ab)) :
    Calls Tryd.prog 52 #[v, u] w fun e w' => e = .returned (str (Fb.shortL row ab)) ∧ Below w.heap.size w w' := by
  have HVS : Hid (∃ a c, v = .slice a row.length c) := by obtain ⟨a, c, h, _⟩ := HR.out; exact ⟨a, c, h⟩
  have HUS : Hid (∃ a c, u = .slice a ab.length c) := by obtain ⟨a, c, h, _⟩ := HA.out; exact ⟨a, c, h⟩
  go_enter Tryd.func52, Tryd.ntmps52
  go_wp2_with fail
  go_loopw [5, 6, 10] (fun x y i wr => ∃ (k f : Nat) (best : ByteArray), k ≤ 4 ∧ i = .int .i64 k ∧ x = .string best ∧ y = .int .i64 f ∧ f ≤ 100000 ∧ best.size ≤ 2000 ∧ Below w.heap.size w wr ∧ Hid (k = 0 → best = ⟨#[]⟩) ∧ Hid (0 < k → best.data.toList = UInt8.ofNat (Fb.bestTo row ab k) :: Fb.tellL (Fb.bestTo row ab k) row ab ∧ f = (Fb.packL (Fb.tellL (Fb.bestTo row ab k) row ab)).length)) (fun _ _ i _ => 4 - (intOf i).toNat)
  case atStart => exact ⟨0, 0, ⟨#[]⟩, by omega, rfl, rfl, rfl, by omega, by decide, Below.refl _ _, (fun _ => rfl), (fun h => by omega)⟩
  case round =>
    obtain ⟨k, f, best, hk, rfl, rfl, rfl, hf, hbs, hb, HK0, HK1⟩ := hrel
    by_cases hlt : k < 4
    · obtain ⟨t, HT⟩ := bytes_of (Fb.tellL k row ab)
      have hts : t.size ≤ 1000 := by rw [size_of HT]; unfold Fb.tellL; rw [Fb.tellTo_len]; omega
      obtain ⟨p, HP⟩ := bytes_of (Fb.packL t.data.toList)
      have hps : p.size ≤ 2000 := by rw [size_of HP]; have := Fb.packL_len t.data.toList; have h2 : t.data.toList.length = t.size := by simp
                                     omega
      have HPL : Hid ((Fb.packL (Fb.tellL k row ab)).length = p.size) := by unfold Hid; rw [size_of HP, HT.out]
      obtain ⟨nb, HNB⟩ : ∃ nb, Hid (UInt8.ofNat k = nb) := ⟨_, (rfl : _ = _)⟩
      have HNI : Hid ((nb.toNat : Int) = (k : Int)) := by unfold Hid; rw [← HNB.out, Fb.ofNat_toNat _ (by omega)]
      go_wp2_with fail
      refine (tell_at k hlt v u row ab _ hne hlen (HR.out.on hb) (HA.out.on hb) t HT).mono ?_
      rintro e w1 ⟨rfl, hb1⟩
      go_wp2_with fail
      refine (pack_len t _ (by omega) p HP).mono ?_
      rintro e w2 ⟨rfl, hb2⟩
      have hbb : Below w.heap.size w w2 := (hb.trans (hb1.mono hb.size)).trans (hb2.mono (Nat.le_trans hb.size hb1.size))
      have hcv := run_one1 (w2.alloc (.cells #[.int .u8 (k : Int)] 5)) w2.heap.size (k : Int) nb HNI (by simp)
      have HSZ : Hid (((⟨#[nb]⟩ : ByteArray) ++ t).size ≤ 2000) := by unfold Hid; rw [ByteArray.size_append]; show 1 + t.size ≤ 2000; omega
      have HDT : Hid (((⟨#[nb]⟩ : ByteArray) ++ t).data.toList = UInt8.ofNat k :: Fb.tellL k row ab) := by unfold Hid; rw [cons_data, HNB.out, HT.out]
      by_cases hk0 : k = 0
      · have hbe : best = ⟨#[]⟩ := HK0.out hk0
        subst hbe
        subst hk0
        have HB0 : Hid (Fb.bestTo row ab 1 = 0) := by unfold Hid; rw [best_step]; simp [Fb.bestTo]
        have hcv0 := run_one1 (w2.alloc (.cells #[.int .u8 0] 5)) w2.heap.size 0 nb HNI (by simp)
        clear hcv
        go_wp2_with fail
        go_roundw
        case rel => exact ⟨1, p.size, ⟨#[nb]⟩ ++ t, by omega, rfl, rfl, rfl, by omega, HSZ.out, hbb.alloc hbb.size _, (by unfold Hid; intro h; omega), (fun _ => by rw [HB0.out]; exact ⟨HDT.out, HPL.out.symm⟩)⟩
        case measure => simp [intOf]
      · have h1 := HK1.out (by omega)
        have hbn : ¬ best.toList = [] := by rw [Lib.toList_data, h1.1]; simp
        have hbn2 : best.toList.isEmpty = false := by simp [hbn]
        have hbn3 : (best.toList == []) = false := by simp [hbn]
        have hbn4 : decide (best.toList = []) = false := by simp [hbn]
        have hfe := h1.2
        by_cases hless : p.size < f
        · have HB : Hid (Fb.bestTo row ab (k + 1) = k) := by unfold Hid; rw [best_step, if_pos]; exact ⟨by rw [HPL.out, ← hfe]; exact hless, hk0⟩
          clear h1 hfe
          go_wp2_with fail
          go_roundw
          case rel => exact ⟨k + 1, p.size, ⟨#[nb]⟩ ++ t, by omega, by go_num, rfl, rfl, by omega, HSZ.out, hbb.alloc hbb.size _, (by unfold Hid; intro h; omega), (fun _ => by rw [HB.out]; exact ⟨HDT.out, HPL.out.symm⟩)⟩
          case measure => simp [intOf]; omega
        · have HB : Hid (Fb.bestTo row ab (k + 1) = Fb.bestTo row ab k) := by unfold Hid; rw [best_step, if_neg]; rw [HPL.out, ← hfe]; intro h; exact hless h.1
          clear h1 hfe
          go_wp2_with fail
          go_roundw
          case rel => exact ⟨k + 1, f, best, by omega, by go_num, rfl, rfl, hf, hbs, hbb, (by unfold Hid; intro h; omega), (fun _ => by rw [HB.out]; exact HK1.out (by omega))⟩
          case measure => simp [intOf]; omega
    · have hk4 : k = 4 := by omega
      subst hk4
      have h1 := HK1.out (by omega)
      have HE : Hid (str (Fb.shortL row ab) = .string best) := by unfold Hid Fb.shortL Fb.bestW; rw [← h1.1, str_self]
      clear h1
      go_wp2_with fail
      go_ret
      exact ⟨by rw [HE.out]; rfl, hb⟩
end Go.Proofs.YtfhfedcamcpceaaDoor
