/- Walk: script.kindOf. -- s1 -/
import Derived.Test.YtfhfedcamcpceaaDoorScAJ
import Derived.Test.YtfhfedcamcpceaaDoorScNJ
namespace Go.Proofs.YtfhfedcamcpceaaDoor
open Go.RowKit
open Go.Lib hiding intOf

/-- the table of words lies where the program has it -/
def WordsP (w : World) : Prop := ∀ k x, Sc.wdB[k]? = some x → w.cell? ⟨1, k, none⟩ = some (.string ⟨x.toArray⟩)
theorem WordsP.on {w w' : World} (h : WordsP w) (hb : Below w.heap.size w w') : WordsP w' := fun k x hx => (hb.cell (World.block_lt_of_cell? w _ (h k x hx))).trans (h k x hx)
theorem wd_none {s : ByteArray} {wv : Nat → ByteArray} (HWV : Hid (∀ k, k < 16 → (wv k).data.toList = Sc.wdB.getD k [])) (h : ∀ j, j < 16 → wv j ≠ s) : Sc.kwOf s.data.toList = 0 :=
  Sc.kwTo_none _ 16 fun j hj e => h j hj (data_inj ((HWV.out j hj).trans e))
theorem wd_some {s : ByteArray} {wv : Nat → ByteArray} (HWV : Hid (∀ k, k < 16 → (wv k).data.toList = Sc.wdB.getD k [])) {j : Nat} (hj : j < 16) (h : wv j = s) : Sc.kwOf s.data.toList = j + 1 := by
  rw [← h, HWV.out j hj]
  exact Sc.kwOf_at j hj
theorem lt_ext {P : Nat → Prop} {k : Nat} (h : ∀ j, j < k → P j) (hk : P k) : ∀ j, j < k + 1 → P j := fun j hj => by
  rcases Nat.lt_or_ge j k with h1 | h1
  · exact h j h1
  · obtain rfl : j = k := by omega
    exact hk
theorem words_at (wv : Nat → ByteArray) (k : Nat) (h : k < 16) : (#[.string (wv 0), .string (wv 1), .string (wv 2), .string (wv 3), .string (wv 4), .string (wv 5), .string (wv 6), .string (wv 7), .string (wv 8), .string (wv 9), .string (wv 10), .string (wv 11), .string (wv 12), .string (wv 13), .string (wv 14), .string (wv 15)] : Array Value)[k]? = some (.string (wv k)) := by
  rcases (show k = 0 ∨ k = 1 ∨ k = 2 ∨ k = 3 ∨ k = 4 ∨ k = 5 ∨ k = 6 ∨ k = 7 ∨ k = 8 ∨ k = 9 ∨ k = 10 ∨ k = 11 ∨ k = 12 ∨ k = 13 ∨ k = 14 ∨ k = 15 by omega) with rfl | rfl | rfl | rfl | rfl | rfl | rfl | rfl | rfl | rfl | rfl | rfl | rfl | rfl | rfl | rfl <;> rfl
set_option maxRecDepth 100000 in
theorem run_index_words (cs : Array Value) (i : Nat) (v : Value) (w : World) (hi : i < 16) (hv : cs[i]? = some v) :
    (Instr.index 85 (.agg cs) (.int .i64 (i : Int))).run Tryd.prog w = .ok v w := by
  have hb : 0 ≤ (i : Int) ∧ (i : Int) < 16 := by omega
  simp [Instr.index, run_underlying Tryd.underlying85, asIntOf, hi, hv, go_sem]
set_option maxHeartbeats 16000000 in
set_option maxRecDepth 100000 in
theorem kindOf_any (s : ByteArray) (w : World) (HW : Hid (WordsP w)) (r : Nat) (HK : Hid (Sc.kwOf s.data.toList = r)) :
    Calls Tryd.prog 45 #[.string s] w fun e w' => e = .returned (.tuple #[.int .i64 (r : Int), .bool (decide (r ≠ 0))]) ∧ w' = w := by
  obtain ⟨wv, HWV0⟩ : ∃ wv : Nat → ByteArray, Hid (∀ k, wv k = ⟨(Sc.wdB.getD k []).toArray⟩) := ⟨fun k => ⟨(Sc.wdB.getD k []).toArray⟩, fun _ => rfl⟩
  have HWV : Hid (∀ k, k < 16 → (wv k).data.toList = Sc.wdB.getD k []) := fun k _ => by rw [HWV0.out k]
  have hc : ∀ k, k < 16 → w.cell? ⟨1, k, none⟩ = some (.string (wv k)) := fun k hk => by
    rw [HWV0.out k]
    refine HW.out k _ ?_
    rw [List.getD_eq_getElem?_getD, List.getElem?_eq_getElem (show k < Sc.wdB.length from hk)]
    rfl
  have c0 := hc 0 (by omega)
  have c1 := hc 1 (by omega)
  have c2 := hc 2 (by omega)
  have c3 := hc 3 (by omega)
  have c4 := hc 4 (by omega)
  have c5 := hc 5 (by omega)
  have c6 := hc 6 (by omega)
  have c7 := hc 7 (by omega)
  have c8 := hc 8 (by omega)
  have c9 := hc 9 (by omega)
  have c10 := hc 10 (by omega)
  have c11 := hc 11 (by omega)
  have c12 := hc 12 (by omega)
  have c13 := hc 13 (by omega)
  have c14 := hc 14 (by omega)
  have c15 := hc 15 (by omega)
  clear hc HWV0
  go_enter Tryd.func45, Tryd.ntmps45
  go_wp2_with fail
  go_loopw [7] (fun iv wr => ∃ k : Nat, k ≤ 16 ∧ iv = .int .i64 k ∧ Hid (∀ j, j < k → wv j ≠ s) ∧ wr = w) (fun i _ => 16 - (intOf i).toNat)
  case atStart => exact ⟨0, by omega, rfl, (fun j hj => by omega), rfl⟩
  case round =>
    obtain ⟨k, hk, rfl, HN, rfl⟩ := hrel
    by_cases hlt : k < 16
    · have hix := run_index_words #[.string (wv 0), .string (wv 1), .string (wv 2), .string (wv 3), .string (wv 4), .string (wv 5), .string (wv 6), .string (wv 7), .string (wv 8), .string (wv 9), .string (wv 10), .string (wv 11), .string (wv 12), .string (wv 13), .string (wv 14), .string (wv 15)] k (.string (wv k)) wr hlt (words_at wv k hlt)
      have hki : (k : Int) < 16 := by omega
      clear c0 c1 c2 c3 c4 c5 c6 c7 c8 c9 c10 c11 c12 c13 c14 c15
      by_cases he : wv k = s
      · have hr : k + 1 = r := (wd_some HWV (j := k) hlt he).symm.trans HK.out
        subst hr
        have hee : ((wv k).toList == s.toList) = true := by rw [he]; simp
        have hone : IntKind.i64.wrap (1 + (k : Int)) = ((k + 1 : Nat) : Int) := by rw [IntKind.wrap_i64]; omega
        clear he HN
        go_wp2_with fail
        refine bodyPost_ret (v := .tuple #[.int .i64 ((k + 1 : Nat) : Int), .bool true]) (by simp [results, Tryd.results45, go_sem]; try omega) rfl ⟨by simp, rfl⟩
      · have hne : ((wv k).toList == s.toList) = false := txt_ne he
        have HN2 : Hid (∀ j, j < k + 1 → wv j ≠ s) := lt_ext (P := fun j => wv j ≠ s) HN.out he
        clear he
        go_wp2_with fail
        go_roundw
        case rel => exact ⟨k + 1, by omega, by go_num, HN2, by first | trivial | rfl⟩
        case measure => simp [intOf]; omega
    · obtain rfl : k = 16 := by omega
      have hr : 0 = r := (wd_none HWV HN.out).symm.trans HK.out
      subst hr
      go_wp2_with fail
      refine bodyPost_ret (v := .tuple #[.int .i64 0, .bool false]) (by simp [results, Tryd.results45, go_sem]) rfl ⟨rfl, rfl⟩
end Go.Proofs.YtfhfedcamcpceaaDoor
