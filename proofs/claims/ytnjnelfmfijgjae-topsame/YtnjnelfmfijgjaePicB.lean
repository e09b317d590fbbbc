/- Walks of the guesses: picture's guesser and its closures. -/
import Derived.Test.YtnjnelfmfijgjaePackG
import Derived.Test.YtnjnelfmfijgjaePicM
import Derived.Deep.Cut
import Derived.Deep.RegionWith
import Derived.Laws.EntriesVeiled
namespace Go.Proofs.Ytnjnelfmfijgjae
open Go.RowKit

/-- bytes that can be read -/
def RdB (w : World) (v : Value) (l : List UInt8) : Prop :=
  ∃ a cap, v = .slice a l.length cap ∧ l.length ≤ cap ∧ cap ≤ 9223372036854775807 ∧ (l ≠ [] → ∃ g, a = some ⟨g, 0, none⟩ ∧ g < w.heap.size ∧ ∀ j, j < l.length → w.cell? ⟨g, j, none⟩ = some (bv (l.getD j 0)))

theorem RdB.on {w w' : World} {v : Value} {l : List UInt8} (h : RdB w v l) (hb : Below w.heap.size w w') : RdB w' v l := by
  obtain ⟨a, cap, hv, hl, hc, hh⟩ := h
  refine ⟨a, cap, hv, hl, hc, fun hne => ?_⟩
  obtain ⟨g, ha, hg, hcell⟩ := hh hne
  refine ⟨g, ha, Nat.lt_of_lt_of_le hg hb.size, fun j hj => ?_⟩
  rw [hb.cell (p := ⟨g, j, none⟩) hg]
  exact hcell j hj
theorem RdB.drewN {w : World} {v : Value} {l : List UInt8} (h : RdB w v l) (q : Nat) : RdB (w.drewN q) v l := h
theorem RdB.drew {w : World} {v : Value} {l : List UInt8} (h : RdB w v l) : RdB w.drew v l := h

theorem rdB_own {w : World} {B : Nat} {v : Value} {l : List UInt8} (h : w.ownsRow B 5 1 v l.length (l.map bv)) : RdB w v l := by
  rcases h.2 with ⟨rfl, h0⟩ | ⟨g, cap, cur, rfl, hb, hg, hn, hm, hs, ht⟩
  · exact ⟨none, 0, by rw [h0], by omega, by omega, fun hne => absurd (List.eq_nil_of_length_eq_zero h0) hne⟩
  · refine ⟨_, cap, rfl, hn, by unfold maxLen at hm; omega, fun _ => ⟨g, rfl, (Array.getElem?_eq_some_iff.1 hg).1, fun j hj => ?_⟩⟩
    rw [h.cellAt j (by omega), List.getElem?_map, List.getD_eq_getElem?_getD, List.getElem?_eq_getElem hj]
    rfl

set_option maxRecDepth 100000 in
theorem left_any (i b : Nat) (v : Value) (r : List UInt8) (W : World) (hi : i ≤ 1000000) (hir : i < r.length + 2) (hbox : W.cell? ⟨b, 0, none⟩ = some v) (HR : Hid (RdB W v r)) :
    Calls Try.prog 25 #[.int .i64 (i : Int), .pointer (some ⟨b, 0, none⟩)] W fun e W' => e = .returned (bv (Fb.leftB r i)) ∧ W = W' := by
  by_cases h2 : i < 2
  · have HF : Hid (Fb.leftB r i = 0) := by unfold Hid Fb.leftB; rw [if_pos h2]
    go_enter Try.func25, Try.ntmps25
    go_wp2
    go_ret
    exact ⟨by rw [HF.out]; rfl, rfl⟩
  · obtain ⟨k, rfl⟩ : ∃ k, i = k + 2 := ⟨i - 2, by omega⟩
    obtain ⟨a, cap, rfl, hl, hc, hh⟩ := HR.out
    obtain ⟨g, rfl, hg, hcell⟩ := hh (by intro e; rw [e] at hir; simp at hir; omega)
    have hk : k < r.length := by omega
    have hck := hcell k hk
    have HF : Hid (Fb.leftB r (k + 2) = r.getD k 0) := by unfold Hid Fb.leftB; rw [if_neg h2]; rfl
    obtain ⟨x, HX⟩ : ∃ x, Hid (bv (r.getD k 0) = x) := ⟨_, (rfl : _ = _)⟩
    rw [HX.out] at hck
    clear hcell hh
    go_enter Try.func25, Try.ntmps25
    go_wp2
    go_ret
    exact ⟨by rw [HF.out, HX.out]; rfl, rfl⟩

set_option maxRecDepth 100000 in
theorem up_any (i b : Nat) (v : Value) (r : List UInt8) (W : World) (hi : i ≤ 1000000) (hbox : W.cell? ⟨b, 0, none⟩ = some v) (HR : Hid (RdB W v r)) :
    Calls Try.prog 26 #[.int .i64 (i : Int), .pointer (some ⟨b, 0, none⟩)] W fun e W' => e = .returned (bv (r.getD i 0)) ∧ W = W' := by
  obtain ⟨a, cap, rfl, hl, hc, hh⟩ := HR.out
  by_cases hge : r.length ≤ i
  · have HF : Hid (r.getD i 0 = 0) := by unfold Hid; rw [List.getD_eq_getElem?_getD, List.getElem?_eq_none hge]; rfl
    clear hh
    go_enter Try.func26, Try.ntmps26
    go_wp2
    go_ret
    exact ⟨by rw [HF.out]; rfl, rfl⟩
  · obtain ⟨g, rfl, hg, hcell⟩ := hh (by intro e; rw [e] at hge; simp at hge)
    have hck := hcell i (by omega)
    obtain ⟨x, HX⟩ : ∃ x, Hid (bv (r.getD i 0) = x) := ⟨_, (rfl : _ = _)⟩
    rw [HX.out] at hck
    clear hcell hh
    go_enter Try.func26, Try.ntmps26
    go_wp2
    go_ret
    exact ⟨by rw [HX.out]; rfl, rfl⟩

theorem none_any (i : Nat) (W : World) : Calls Try.prog 28 #[.int .i64 (i : Int)] W fun e W' => e = .returned (bv 0) ∧ W = W' := by
  go_enter Try.func28, Try.ntmps28
  go_wp2
  go_ret
  exact ⟨rfl, rfl⟩

/-- the closures as values -/
def leftF (b : Nat) : Value := .func (.func 25) #[] #[.pointer (some ⟨b, 0, none⟩)]
def upF (b : Nat) : Value := .func (.func 26) #[] #[.pointer (some ⟨b, 0, none⟩)]

set_option maxHeartbeats 1000000 in
set_option maxRecDepth 100000 in
theorem half_any (i b : Nat) (v u : Value) (r ab : List UInt8) (W : World) (hi : i ≤ 1000000) (hir : i < r.length + 2) (h0 : W.cell? ⟨b, 0, none⟩ = some v) (h1 : W.cell? ⟨b + 1, 0, none⟩ = some u)
    (h2 : W.cell? ⟨b + 2, 0, none⟩ = some (.func (.func 25) #[] #[.pointer (some ⟨b, 0, none⟩)])) (h3 : W.cell? ⟨b + 3, 0, none⟩ = some (.func (.func 26) #[] #[.pointer (some ⟨b + 1, 0, none⟩)]))
    (HR : Hid (RdB W v r)) (HA : Hid (RdB W u ab)) :
    Calls Try.prog 27 #[.int .i64 (i : Int), .pointer (some ⟨b + 2, 0, none⟩), .pointer (some ⟨b + 3, 0, none⟩)] W fun e W' => e = .returned (bv (UInt8.ofNat (((Fb.leftB r i).toNat + (ab.getD i 0).toNat) / 2))) ∧ ∃ q, W' = W.drewN q := by
  obtain ⟨x, HX⟩ : ∃ x, Hid ((Fb.leftB r i).toNat = x) := ⟨_, (rfl : _ = _)⟩
  obtain ⟨y, HY⟩ : ∃ x, Hid ((ab.getD i 0).toNat = x) := ⟨_, (rfl : _ = _)⟩
  have hx := byte_le _ x HX
  have hy := byte_le _ y HY
  have HL : Hid (Calls Try.prog 25 #[.int .i64 (i : Int), .pointer (some ⟨b, 0, none⟩)] W.drew fun e W' => e = .returned (.int .u8 (x : Int)) ∧ W.drew = W') := by
    unfold Hid
    have := left_any i b v r W.drew hi hir h0 HR.out.drew
    unfold bv at this
    rw [HX.out] at this
    exact this
  have HU : Hid (Calls Try.prog 26 #[.int .i64 (i : Int), .pointer (some ⟨b + 1, 0, none⟩)] W.drew fun e W' => e = .returned (.int .u8 (y : Int)) ∧ W.drew = W') := by
    unfold Hid
    have := up_any i (b + 1) u ab W.drew hi h1 HA.out.drew
    unfold bv at this
    rw [HY.out] at this
    exact this
  rw [HX.out, HY.out]
  go_enter Try.func27, Try.ntmps27
  go_wp2_with fail
  have hq0 : ((x : Int) + (y : Int)).tdiv 2 = ((x : Int) + (y : Int)) / 2 := Int.tdiv_eq_ediv_of_nonneg (by omega)
  have hq1 : IntKind.i64.wrap ((x : Int) + (y : Int)) = (x : Int) + (y : Int) := by rw [IntKind.wrap_i64]; omega
  have hq2 : IntKind.i64.wrap (((x : Int) + (y : Int)) / 2) = ((x : Int) + (y : Int)) / 2 := by rw [IntKind.wrap_i64]; omega
  have hq3 : IntKind.u8.wrap (((x : Int) + (y : Int)) / 2) = ((x : Int) + (y : Int)) / 2 := by rw [IntKind.wrap_u8]; omega
  have hq4 : IntKind.i64.wrap (x : Int) = (x : Int) := by rw [IntKind.wrap_i64]; omega
  have hq5 : IntKind.i64.wrap (y : Int) = (y : Int) := by rw [IntKind.wrap_i64]; omega
  go_cut [4] from 5 (fun s4 wc => s4 = .int .u8 (((x : Int) + (y : Int)) / 2) ∧ ∃ q, wc = W.drewN q)
  case first =>
    go_region_with (first | (go_at_call 25; refine Calls.mono HL.out ?_; rintro e w3 ⟨rfl, rfl⟩) | (go_at_call 26; refine Calls.mono HU.out ?_; rintro e w3 ⟨rfl, rfl⟩))
    all_goals (go_wp2_with fail; go_meet)
    all_goals exact ⟨rfl, 1, rfl⟩
  case rest =>
    obtain ⟨rfl, q, rfl⟩ := hcut
    go_wp2_with fail
    go_ret
    refine ⟨?_, q, rfl⟩
    have e : bv (UInt8.ofNat ((x + y) / 2)) = .int .u8 (((x : Int) + (y : Int)) / 2) := by
      unfold bv; rw [Fb.ofNat_toNat _ (by omega)]; simp
    rw [e]; rfl

/-- the boxes that guesser lays: the row, the row above, and two closures -/
structure Boxes (W : World) (b : Nat) (v u : Value) : Prop where
  c0 : W.cell? ⟨b, 0, none⟩ = some v
  c1 : W.cell? ⟨b + 1, 0, none⟩ = some u
  c2 : W.cell? ⟨b + 2, 0, none⟩ = some (.func (.func 25) #[] #[.pointer (some ⟨b, 0, none⟩)])
  c3 : W.cell? ⟨b + 3, 0, none⟩ = some (.func (.func 26) #[] #[.pointer (some ⟨b + 1, 0, none⟩)])
  lt : b + 3 < W.heap.size

theorem Boxes.on {W W' : World} {b : Nat} {v u : Value} (h : Boxes W b v u) (hb : Below W.heap.size W W') : Boxes W' b v u :=
  ⟨(hb.cell (p := ⟨b, 0, none⟩) (by have := h.lt; show b < _; omega)).trans h.c0, (hb.cell (p := ⟨b + 1, 0, none⟩) (by have := h.lt; show b + 1 < _; omega)).trans h.c1,
    (hb.cell (p := ⟨b + 2, 0, none⟩) (by have := h.lt; show b + 2 < _; omega)).trans h.c2, (hb.cell (p := ⟨b + 3, 0, none⟩) (by have := h.lt; show b + 3 < _; omega)).trans h.c3, Nat.lt_of_lt_of_le h.lt hb.size⟩
theorem Boxes.drew {W : World} {b : Nat} {v u : Value} (h : Boxes W b v u) : Boxes W.drew b v u := ⟨h.c0, h.c1, h.c2, h.c3, h.lt⟩
theorem Boxes.drewN {W : World} {b : Nat} {v u : Value} (h : Boxes W b v u) (q : Nat) : Boxes (W.drewN q) b v u := ⟨h.c0, h.c1, h.c2, h.c3, h.lt⟩
/-- a store into another block -/
theorem Boxes.store {W : World} {b g j : Nat} {v u x : Value} (h : Boxes W b v u) (h0 : g ≠ b) (h1 : g ≠ b + 1) (h2 : g ≠ b + 2) (h3 : g ≠ b + 3) : Boxes (W.setCell ⟨g, j, none⟩ x) b v u :=
  ⟨(World.cell?_of_block (Below.heap_setCell W ⟨g, j, none⟩ x b (by simpa using h0.symm))).trans h.c0, (World.cell?_of_block (Below.heap_setCell W ⟨g, j, none⟩ x (b + 1) (by simpa using h1.symm))).trans h.c1,
    (World.cell?_of_block (Below.heap_setCell W ⟨g, j, none⟩ x (b + 2) (by simpa using h2.symm))).trans h.c2, (World.cell?_of_block (Below.heap_setCell W ⟨g, j, none⟩ x (b + 3) (by simpa using h3.symm))).trans h.c3, by simpa using h.lt⟩

theorem cell_old (w : World) (o : Obj) (b j : Nat) (h : b < w.heap.size) : (w.alloc o).cell? ⟨b, j, none⟩ = w.cell? ⟨b, j, none⟩ :=
  ((Below.refl w.heap.size w).alloc (Nat.le_refl _) o).cell (p := ⟨b, j, none⟩) h
theorem cell_fresh (w : World) (x : Value) (T : TypeId) (b : Nat) (h : b = w.heap.size) : (w.alloc (.cells #[x] T)).cell? ⟨b, 0, none⟩ = some x := by subst h; simp

theorem boxes_new (w : World) (v u : Value) (T S : TypeId) : Boxes ((((w.alloc (.cells #[v] T)).alloc (.cells #[u] T)).alloc (.cells #[.func (.func 25) #[] #[.pointer (some ⟨w.heap.size, 0, none⟩)]] S)).alloc (.cells #[.func (.func 26) #[] #[.pointer (some ⟨w.heap.size + 1, 0, none⟩)]] S)) w.heap.size v u := by
  refine ⟨?_, ?_, ?_, ?_, ?_⟩
  · rw [cell_old _ _ _ _ (by simp; omega), cell_old _ _ _ _ (by simp; omega), cell_old _ _ _ _ (by simp), cell_fresh _ _ _ _ rfl]
  · rw [cell_old _ _ _ _ (by simp), cell_old _ _ _ _ (by simp), cell_fresh _ _ _ _ (by simp)]
  · rw [cell_old _ _ _ _ (by simp), cell_fresh _ _ _ _ (by simp)]
  · rw [cell_fresh _ _ _ _ (by simp)]
  · simp

/-- the closure of each way -/
def wayF (way b : Nat) : Value :=
  if way = 1 then .func (.func 25) #[] #[.pointer (some ⟨b, 0, none⟩)] else if way = 2 then .func (.func 26) #[] #[.pointer (some ⟨b + 1, 0, none⟩)]
  else if way = 3 then .func (.func 27) #[] #[.pointer (some ⟨b + 2, 0, none⟩), .pointer (some ⟨b + 3, 0, none⟩)] else .func (.func 28) #[] #[]

set_option maxHeartbeats 1000000 in
set_option maxRecDepth 100000 in
theorem guesser_any (way : Nat) (hway : way < 4) (v u : Value) (w : World) (l c l2 c2 : Nat) (a a2 : Option Addr) (hv : v = .slice a l c) (hu : u = .slice a2 l2 c2) :
    Calls Try.prog 24 #[.int .i64 (way : Int), v, u] w fun e w' => e = .returned (wayF way w.heap.size) ∧ Boxes w' w.heap.size v u ∧ Below w.heap.size w w' := by
  subst hv hu
  have hmf : ∀ (fn : Fn) (first cap : Array Value) (w : World), (Instr.makeFunc fn first cap).run Try.prog w = .ok (.func fn first cap) w := fun _ _ _ _ => rfl
  have h4 : way = 0 ∨ way = 1 ∨ way = 2 ∨ way = 3 := by omega
  rcases h4 with rfl | rfl | rfl | rfl
  all_goals go_enter Try.func24, Try.ntmps24
  all_goals go_wp2
  all_goals go_ret
  all_goals exact ⟨rfl, boxes_new _ _ _ _ _, (((((Below.refl _ _).alloc (Nat.le_refl _) _).alloc (by simp) _).alloc (by simp; omega) _).alloc (by simp; omega) _)⟩
end Go.Proofs.Ytnjnelfmfijgjae
