/- Walks of strings.Clone, and of chunk's Sum, Name and pair. -/
import Derived.Test.YtjoggjjkafamlabChunkMath
import Derived.Test.YtjoggjjkafamlabPackG
import Derived.Lib.BufferWrite
import Derived.Lib.UnsafeStr
import Derived.Lib.Strings
import Derived.Laws.MakeOwn
namespace Go.Proofs.Ytjoggjjkafamlab
open Go.RowKit

theorem Try.cellsByte : Try.prog.cellsOf 5 = 1 := by kernel_rfl

set_option maxHeartbeats 1000000 in
set_option maxRecDepth 100000 in
theorem lite_clone (s : ByteArray) (w : World) (hs : s.size ≤ 1000000) :
    Calls Try.prog 29 #[.string s] w fun e w' => e = .returned (.string s) ∧ Below w.heap.size w w' := by
  by_cases h0 : s.size = 0
  · have he : s = ⟨#[]⟩ := ByteArray.ext (Array.eq_empty_of_size_eq_zero h0)
    subst he
    go_enter Try.func29, Try.ntmps29
    go_wp2
    go_ret
    exact ⟨rfl, Below.refl _ _⟩
  · obtain ⟨i0, hi, hz0, hz1, hz2⟩ := info_parts Try.infoByte
    have hsz : (Try.prog.info? 5).map (·.size) = some 1 := by rw [hi]; simp [hz1]
    obtain ⟨M, HM⟩ : ∃ M, Hid (madeCells (Value.int .u8 0).cells (((s.size : Nat) : Int).toNat * i0.size) = M) := ⟨_, (rfl : _ = _)⟩
    have hMs : M.size = s.size := by rw [← HM.out, size_madeCells, hz1]; simp
    have hmake : ∀ W : World, (Instr.makeSlice 30 (.int .i64 (s.size : Int)) (.int .i64 (s.size : Int))).run Try.prog W = .ok (.slice (some ⟨W.heap.size, 0, none⟩) s.size s.size) (W.alloc (.cells M 5)) := by
      intro W
      have h := run_make (P := Try.prog) W 30 5 i0 (.int .u8 0) Try.underlying30 hi hz0 .i64 .i64 (s.size : Int) (s.size : Int) (by omega) (by omega) (by rw [hz2]; omega) (by omega)
      rw [HM.out] at h
      simpa using h
    have hcopy := Lib.run_copy_row_string (P := Try.prog) (w.alloc (.cells M 5)) 30 9 3 5 w.heap.size 0 s.size s.size s M 5 Try.underlying30 hsz (heap_alloc_new w _) (Nat.le_refl _) (by omega)
    obtain ⟨Y, HY⟩ : ∃ Y, Hid ((M.toList.take 0 ++ Lib.byteCells s.data.toList ++ M.toList.drop (0 + s.size)).toArray = Y) := ⟨_, (rfl : _ = _)⟩
    rw [HY.out] at hcopy
    have hYl : Y.toList = Lib.byteCells s.data.toList := by
      rw [← HY.out, List.toList_toArray, List.take_zero, List.nil_append, List.drop_of_length_le (by rw [Array.length_toList]; omega), List.append_nil]
    have hYs : Y.size = s.size := by rw [← Array.length_toList, hYl, Lib.byteCells_length, ← Lib.size_eq]
    have hgY : ((w.alloc (.cells M 5)).setRow w.heap.size Y).heap[w.heap.size]? = some (.cells Y 5 (0, 0)) := setRow_heap _ _ M _ 5 (0, 0) (heap_alloc_new w _)
    have hne : s.data.toList ≠ [] := fun e => h0 (by rw [Lib.size_eq, e]; rfl)
    have hstr := Lib.run_unsafeString_row (P := Try.prog) ((w.alloc (.cells M 5)).setRow w.heap.size Y) 69 3 9 5 Try.underlying69 Try.cellsByte w.heap.size Y.size (by unfold World.shape?; rw [hgY]) s.data.toList hne (by rw [← Lib.size_eq]; omega) (by rw [← Lib.size_eq]; omega)
      (fun j x hx => Lib.cells_of_row hgY Y.size j _ (by rw [List.take_of_length_le (by rw [Array.length_toList]; exact Nat.le_refl _), hYl]; simp [Lib.byteCells, hx]))
    rw [← Lib.size_eq] at hstr
    have hpos : 0 < s.size := by omega
    clear hYl hYs hMs hgY hne
    go_enter Try.func29, Try.ntmps29
    go_wp2
    go_ret
    have hb1 : Below w.heap.size w (w.alloc (.cells M 5)) := (Below.refl _ w).alloc (Nat.le_refl _) _
    have hb2 : Below w.heap.size (w.alloc (.cells M 5)) ((w.alloc (.cells M 5)).setRow w.heap.size Y) := ⟨rfl, rfl, rfl, by simp, fun k hk => setRow_other _ _ _ _ (by omega)⟩
    exact ⟨rfl, Lib.below_freeze (hb1.trans hb2) (p := ⟨w.heap.size, 0, none⟩) (Nat.le_refl _) _⟩

theorem clone_any (s : ByteArray) (w : World) (hs : s.size ≤ 1000000) :
    Calls Try.prog 20 #[.string s] w fun e w' => e = .returned (.string s) ∧ Below w.heap.size w w' := by
  go_enter Try.func20, Try.ntmps20
  go_wp2_with fail
  refine (lite_clone s _ hs).mono ?_
  rintro e w1 ⟨rfl, hb1⟩
  go_wp2_with fail
  go_ret
  exact ⟨rfl, hb1⟩

set_option maxHeartbeats 1000000 in
set_option maxRecDepth 100000 in
theorem sum_any (s : ByteArray) (w : World) (hs : s.size ≤ 1000000) (a b : Nat) (HS : Hid (Fb.sumL s.data.toList = (a, b))) :
    Calls Try.prog 6 #[.string s] w fun e w' => e = .returned (.tuple #[.int .i64 (a : Int), .int .i64 (b : Int)]) ∧ w = w' := by
  have HL : Hid (s.data.toList.length = s.size) := by unfold Hid; simp
  go_enter Try.func6, Try.ntmps6
  go_wp2
  go_loop [2, 3, 7] (fun x y i => ∃ k p q : Nat, k ≤ s.size ∧ i = .int .i64 k ∧ x = .int .i64 p ∧ y = .int .i64 q ∧ p < 251 ∧ q < 251 ∧ Hid (Fb.sumL s.data.toList = (s.data.toList.drop k).foldl Fb.sumStep (p, q))) (fun _ _ i => s.size - (intOf i).toNat)
  case atStart => exact ⟨0, 1, 0, by omega, rfl, rfl, rfl, by omega, by omega, (rfl : _ = _)⟩
  case round =>
    obtain ⟨k, p, q, hk, rfl, rfl, rfl, hp, hq, HK⟩ := hrel
    by_cases hlt : k < s.size
    · obtain ⟨c, HC⟩ : ∃ c, Hid (s.data.toList.getD k 0 = c) := ⟨_, (rfl : _ = _)⟩
      obtain ⟨m, HM⟩ : ∃ m, Hid (c.toNat = m) := ⟨_, (rfl : _ = _)⟩
      have hix := nat_at s k c HC m HM
      have hmb := byte_le c m HM
      have HN : Hid (Fb.sumL s.data.toList = (s.data.toList.drop (k + 1)).foldl Fb.sumStep ((p + m) % 251, (q + (p + m) % 251) % 251)) := by
        unfold Hid; rw [HK.out, drop_one _ k (by rw [HL.out]; exact hlt), HC.out, List.foldl_cons]
        unfold Fb.sumStep; rw [HM.out]
      go_wp2
      go_round
      case rel => exact ⟨k + 1, (p + m) % 251, (q + (p + m) % 251) % 251, by omega, by go_num, by go_num, by go_num, by omega, by omega, HN⟩
      case measure => simp [intOf]; omega
    · have hend : (p, q) = (a, b) := by rw [← HS.out, HK.out, List.drop_eq_nil_of_le (by rw [HL.out]; omega)]; rfl
      have h1 : p = a := congrArg Prod.fst hend
      have h2 : q = b := congrArg Prod.snd hend
      subst h1 h2
      clear hend
      go_wp2
      go_ret2
      exact ⟨rfl, rfl⟩

theorem name_step (l : List UInt8) (k m : Nat) (c : UInt8) (hc : Hid (l.getD k 0 = c)) (hm : Hid (c.toNat = m)) (h : k < l.length) : (l.drop k).all Fb.letter = (decide (65 ≤ m) && decide (m ≤ 90) && (l.drop (k + 1)).all Fb.letter) := by
  rw [drop_one l k h, List.all_cons, hc.out, Fb.letter, hm.out]

set_option maxHeartbeats 1000000 in
set_option maxRecDepth 100000 in
theorem name_any (s : ByteArray) (w : World) (hs : s.size ≤ 9223372036854775807) (b : Bool) (HB : Hid (Fb.nameB s.data.toList = b)) :
    Calls Try.prog 16 #[.string s] w fun e w' => e = .returned (.bool b) ∧ w = w' := by
  have HL : Hid (s.data.toList.length = s.size) := by unfold Hid; simp
  by_cases h4 : s.size = 4
  · have hd : ((s.size : Int) != 4) = false := by rw [bne_eq_false_iff_eq]; omega
    have HF : Hid (s.data.toList.all Fb.letter = b) := by unfold Hid; rw [← HB.out]; unfold Fb.nameB; rw [HL.out, h4]; simp
    have h4' : s.size ≤ 4 := by omega
    have h4'' : 4 ≤ s.size := by omega
    clear h4
    go_enter Try.func16, Try.ntmps16
    go_wp2
    go_loop [9] (fun i => ∃ k : Nat, k ≤ s.size ∧ i = .int .i64 k ∧ Hid (s.data.toList.all Fb.letter = (s.data.toList.drop k).all Fb.letter)) (fun i => s.size - (intOf i).toNat)
    case atStart => exact ⟨0, by omega, rfl, (rfl : _ = _)⟩
    case round =>
      obtain ⟨k, hk, rfl, HK⟩ := hrel
      by_cases hlt : k < s.size
      · obtain ⟨c, HC⟩ : ∃ c, Hid (s.data.toList.getD k 0 = c) := ⟨_, (rfl : _ = _)⟩
        obtain ⟨m, HM⟩ : ∃ m, Hid (c.toNat = m) := ⟨_, (rfl : _ = _)⟩
        have hix := nat_at s k c HC m HM
        have hmb := byte_le c m HM
        have HN : Hid ((s.data.toList.drop k).all Fb.letter = (decide (65 ≤ m) && decide (m ≤ 90) && (s.data.toList.drop (k + 1)).all Fb.letter)) := name_step _ k m c HC HM (by rw [HL.out]; exact hlt)
        by_cases hlo : m < 65
        · have hb : b = false := by rw [← HF.out, HK.out, HN.out]; simp; omega
          subst hb
          go_wp2
          go_ret
          exact ⟨rfl, rfl⟩
        · by_cases hhi : 90 < m
          · have hb : b = false := by rw [← HF.out, HK.out, HN.out]; simp; omega
            subst hb
            go_wp2
            go_ret
            exact ⟨rfl, rfl⟩
          · have HN2 : Hid (s.data.toList.all Fb.letter = (s.data.toList.drop (k + 1)).all Fb.letter) := by
              unfold Hid; rw [HK.out, HN.out]; simp [show 65 ≤ m by omega, show m ≤ 90 by omega]
            go_wp2
            go_round
            case rel => exact ⟨k + 1, by omega, by go_num, HN2⟩
            case measure => simp [intOf]; omega
      · have hb : b = true := by rw [← HF.out, HK.out, List.drop_eq_nil_of_le (by rw [HL.out]; omega)]; rfl
        subst hb
        go_wp2
        go_ret
        exact ⟨rfl, rfl⟩
  · have hd : ((s.size : Int) != 4) = true := by rw [bne_iff_ne]; omega
    have hb : b = false := by rw [← HB.out]; unfold Fb.nameB; rw [HL.out]; simp [h4]
    subst hb
    clear h4
    go_enter Try.func16, Try.ntmps16
    go_wp2
    go_ret
    exact ⟨rfl, rfl⟩

set_option maxRecDepth 100000 in
theorem pair_any (a b : Int) (w : World) (ha : 0 ≤ a) (ha2 : a < 256) (hb : 0 ≤ b) (hb2 : b < 256) :
    Calls Try.prog 17 #[.int .i64 a, .int .i64 b] w fun e w' => e = .returned (.string ⟨#[UInt8.ofNat a.toNat, UInt8.ofNat b.toNat]⟩) ∧ Below w.heap.size w w' := by
  obtain ⟨x, HX⟩ : ∃ x, Hid (UInt8.ofNat a.toNat = x) := ⟨_, (rfl : _ = _)⟩
  obtain ⟨y, HY⟩ : ∃ x, Hid (UInt8.ofNat b.toNat = x) := ⟨_, (rfl : _ = _)⟩
  have HA : Hid ((x.toNat : Int) = a) := by unfold Hid; rw [← HX.out, Fb.ofNat_toNat _ (by omega)]; omega
  have HB : Hid ((y.toNat : Int) = b) := by unfold Hid; rw [← HY.out, Fb.ofNat_toNat _ (by omega)]; omega
  have hcv := run_pair w w.heap.size rfl a b x y HA HB
  rw [HX.out, HY.out]
  go_enter Try.func17, Try.ntmps17
  go_wp2
  go_ret
  exact ⟨rfl, (Below.refl _ _).alloc (Nat.le_refl _) _⟩
end Go.Proofs.Ytjoggjjkafamlab
