/- The library's strings.Split at a blank, strconv.Itoa, strconv.Atoi, as the walks take them. -- s1 -/
import Derived.Test.YtfhfedcamcpceaaDoorShlJ
import Derived.Test.YtfhfedcamcpceaaDoorChecked
import Derived.Test.YtfhfedcamcpceaaDoorScMJ
import Derived.Lib.AppendIntMem
import Derived.Lib.AtoiErrMem
import Derived.Laws.OwnMore
namespace Go.Proofs.YtfhfedcamcpceaaDoor
open Go.RowKit Go.Lib

/-- what the library's own variables hold -/
structure LibE (w : World) : Prop where
  maxl : ∃ m, w.cell? ⟨4, 0, none⟩ = some (.int .i64 m)
  pow : ∃ T fz, w.heap[9]? = some (.cells (Lib.pow10Tab.map fun z => Value.int .u64 z).toArray T fz)
  syn : ∃ tp p, w.cell? ⟨7, 0, none⟩ = some (.iface tp p)
  ran : ∃ tp p, w.cell? ⟨8, 0, none⟩ = some (.iface tp p)
theorem LibE.on {w w' : World} (h : LibE w) (hb : Below w.heap.size w w') : LibE w' := by
  obtain ⟨⟨m, h1⟩, ⟨T, fz, h2⟩, ⟨tp, p, h3⟩, ⟨tq, q, h4⟩⟩ := h
  refine ⟨⟨m, ?_⟩, ⟨T, fz, ?_⟩, ⟨tp, p, ?_⟩, ⟨tq, q, ?_⟩⟩
  · exact (hb.cell (World.block_lt_of_cell? w _ h1)).trans h1
  · exact (hb.block _ (Array.getElem?_eq_some_iff.1 h2).1).trans h2
  · exact (hb.cell (World.block_lt_of_cell? w _ h3)).trans h3
  · exact (hb.cell (World.block_lt_of_cell? w _ h4)).trans h4
/-- the values of texts -/
def strsV (l : List (List UInt8)) : List Value := l.map fun x => Value.string ⟨x.toArray⟩
theorem strsV_len (l : List (List UInt8)) : (strsV l).length = l.length * 1 := by simp [strsV]
theorem Tryd.infoStrL : (Tryd.prog.info? (Tryd.lays146_ren.t 9)).map (fun i => (i.zero, i.size, i.bytes)) = some (some (.string ByteArray.empty), 1, 16) := by kernel_rfl
theorem back_data (s : ByteArray) : (⟨s.data.toList.toArray⟩ : ByteArray) = s := by cases s; simp
set_option maxRecDepth 100000 in
theorem split_lib (s : ByteArray) (w : World) (HE : Hid (LibE w)) (hs : s.size < 4294967281) :
    Calls Tryd.prog 44 #[.string s, .string ⟨#[32]⟩] w fun e w' => ∃ v, e = .returned v ∧ w'.ownsRow w.heap.size 9 1 v (Sc.splitL s.data.toList).length (strsV (Sc.splitL s.data.toList)) ∧ Below w.heap.size w w' := by
  obtain ⟨m, hm⟩ := HE.out.maxl
  have h := Any.strings_Split (P := Tryd.prog) (ρ := Tryd.lays146_ren) Tryd.lays146 Tryd.infoStrL s ⟨#[32]⟩ m w hs hm (by decide)
  refine Calls.mono h ?_
  rintro e w' ⟨rfl, rfl⟩
  have e1 := Sc.splitB_is s ⟨#[32]⟩ rfl
  have e2 : (Sc.splitL s.data.toList).length = countB s ⟨#[32]⟩ + 1 := by
    rw [← e1, List.length_map]
    exact splitB_all ⟨#[32]⟩ (by decide) 0 _ s rfl
  have e3 : strsV (Sc.splitL s.data.toList) = (splitB ⟨#[32]⟩ 0 (countB s ⟨#[32]⟩) s).map Value.string := by
    rw [← e1]
    unfold strsV
    rw [List.map_map]
    refine List.map_congr_left fun x _ => ?_
    simp only [Function.comp_apply, back_data]
  refine ⟨_, rfl, ?_, (Below.refl _ _).alloc (Nat.le_refl _) _⟩
  rw [e2, e3]
  have := World.ownsRow_lit (base := w.heap.size) (e := 9) (size := 1) w ((splitB ⟨#[32]⟩ 0 (countB s ⟨#[32]⟩) s).map Value.string).toArray (countB s ⟨#[32]⟩ + 1) (Nat.le_refl _) (by
    have h1 := countB_le ⟨#[32]⟩ (by decide) s.size s (Nat.le_refl _)
    unfold maxLen
    omega) (by simp [← e2, ← e1])
  exact this
set_option maxRecDepth 100000 in
theorem itoa_lib (n : Int) (w : World) (HE : Hid (LibE w)) (h0 : -9223372036854775808 ≤ n) (h1 : n ≤ 9223372036854775807) :
    Calls Tryd.prog 77 #[.int .i64 n] w fun e w' => e = .returned (.string ⟨(itoa n).toArray⟩) ∧ Below w.heap.size w w' := by
  obtain ⟨T, fz, hp⟩ := HE.out.pow
  refine Calls.mono (Any.strconv_Itoa (P := Tryd.prog) (ρ := Tryd.laysM171_ren) Tryd.laysM171 n h0 h1 w ?_) ?_
  · unfold TabIs World.var?
    rw [show Tryd.prog.globalNamed _ = some 9 by kernel_rfl]
    show (match w.heap[9]? with | some (.cells cs _ _) => some cs | _ => none) = _
    rw [hp]
  · rintro e w' ⟨rfl, k, os, rfl⟩
    exact ⟨rfl, below_grow _ _ (Nat.le_refl _) _ _⟩
set_option maxRecDepth 100000 in
theorem atoi_ok (s : ByteArray) (n : Int) (w : World) (hs : s.size ≤ 281474976710656) (h : atoiAll s.data.toList = .ok n) :
    Calls Tryd.prog 82 #[.string s] w fun e w' => e = .returned (.tuple #[.int .i64 n, .nilIface]) ∧ Below w.heap.size w w' := by
  refine Calls.mono (Any.strconv_Atoi_ok (P := Tryd.prog) (ρ := Tryd.laysC172_ren) Tryd.laysC172 s (by omega) n h w) ?_
  rintro e w' ⟨rfl, rfl | ⟨t, rfl⟩⟩
  · exact ⟨rfl, Below.refl _ _⟩
  · exact ⟨rfl, bytesWorld_below _ _ _⟩
set_option maxRecDepth 100000 in
theorem atoi_no (s : ByteArray) (w : World) (HE : Hid (LibE w)) (hs : s.size ≤ 281474976710656) (h : ∀ n, atoiAll s.data.toList ≠ .ok n) :
    Calls Tryd.prog 82 #[.string s] w fun e w' => ∃ (n : Int) (p : Value), e = .returned (.tuple #[.int .i64 n, .iface 144 p]) ∧ Below w.heap.size w w' := by
  obtain ⟨tp, p, h1⟩ := HE.out.syn
  obtain ⟨tq, q, h2⟩ := HE.out.ran
  cases hh : atoiAll s.data.toList with
  | ok n => exact absurd hh (h n)
  | «syntax» =>
    refine Calls.mono (Any.strconv_Atoi_syntax (P := Tryd.prog) (ρ := Tryd.laysC172_ren) Tryd.laysC172 s hs hh _ w h1 (Or.inr ⟨tp, p, rfl⟩)) ?_
    rintro e w' ⟨N, rfl, _, _, hb⟩
    exact ⟨_, _, rfl, hb⟩
  | range =>
    refine Calls.mono (Any.strconv_Atoi_range (P := Tryd.prog) (ρ := Tryd.laysC172_ren) Tryd.laysC172 s hs hh _ w h2 (Or.inr ⟨tq, q, rfl⟩)) ?_
    rintro e w' ⟨N, rfl, _, _, hb⟩
    exact ⟨_, _, rfl, hb⟩
end Go.Proofs.YtfhfedcamcpceaaDoor
namespace Go.Proofs.YtfhfedcamcpceaaDoor
open Go.RowKit Go.Lib
theorem Tryd.builderExtra : Builder.Extra Tryd.prog Tryd.lays156_ren := {
  sizeBuilder := by kernel_rfl
  liesBuilder := by kernel_rfl
  t5 := Tryd.underlying5
  a5 := Tryd.isAgg5
  z5 := Tryd.sizeOf5
  v5 := Tryd.zeroValue5
  infoByte := by kernel_rfl
  cellsByte := by kernel_rfl
  sizeByte := by kernel_rfl
  neB5 := by decide }
set_option maxRecDepth 100000 in
/-- strings.Join at a blank, of a row of texts that was made -/
theorem join_lib (v : Value) (xs : List (List UInt8)) (B : Nat) (w : World) (HO : Hid (w.ownsRow B 9 1 v xs.length (strsV xs))) (hl : xs.length ≤ 1000000000) (hj : (Lib.join xs [32]).length ≤ 1000000000) :
    Calls Tryd.prog 78 #[v, .string ⟨#[32]⟩] w fun e w' => e = .returned (.string ⟨(Lib.join xs [32]).toArray⟩) ∧ Below w.heap.size w w' := by
  have hmap : (xs.map fun x => (⟨x.toArray⟩ : ByteArray)).map (·.data.toList) = xs := by
    rw [List.map_map]
    conv => rhs; rw [← List.map_id xs]
    exact List.map_congr_left fun x _ => by simp
  have hn : (xs.map fun x => (⟨x.toArray⟩ : ByteArray)).length = xs.length := List.length_map _
  rcases HO.out.2 with ⟨hv, h0⟩ | ⟨g, cap, cur, hv, hB, hg, hcap, hmax, hcs, htake⟩
  · have hx : xs = [] := List.eq_nil_of_length_eq_zero h0
    subst hx hv
    refine Calls.mono (Any.strings_Join_none (P := Tryd.prog) (ρ := Tryd.lays156_ren) Tryd.lays156 Tryd.builderExtra none 0 ⟨#[32]⟩ w) ?_
    rintro e w' ⟨rfl, rfl⟩
    exact ⟨rfl, Below.refl _ _⟩
  · have HO2 := HO.out
    subst hv
    have h := Any.strings_Join (P := Tryd.prog) (ρ := Tryd.lays156_ren) Tryd.lays156 Tryd.builderExtra g 0 cap (xs.map fun x => (⟨x.toArray⟩ : ByteArray)) ⟨#[32]⟩ w (by
      intro j x hx
      have hj2 : j < xs.length := by
        have := (List.getElem?_eq_some_iff.1 hx).1
        rwa [hn] at this
      rw [Nat.zero_add, HO2.cellAt j (by omega)]
      unfold strsV
      rw [List.getElem?_map] at hx ⊢
      cases hxj : xs[j]? with
      | none => rw [hxj] at hx; cases hx
      | some y => rw [hxj] at hx; simp only [Option.map_some, Option.some.injEq] at hx ⊢; rw [← hx]) (Array.getElem?_eq_some_iff.1 hg).1 (by rw [hn]; omega) (by rw [hn]; exact hcap) (by rw [hmap]; exact Nat.le_trans hj (by decide))
    rw [hn, hmap] at h
    exact h
end Go.Proofs.YtfhfedcamcpceaaDoor
