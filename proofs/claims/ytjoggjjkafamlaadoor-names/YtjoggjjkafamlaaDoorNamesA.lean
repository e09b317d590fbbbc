/- Walks of the law Names and of what it calls. -/
import Derived.Test.YtjoggjjkafamlaaDoorChecked
import Derived.WalkKit
import Derived.WalkSpells
import Derived.WalkLawsBesides
import Derived.BigQuiet
import Derived.Deep.QuietTactic
import Derived.Outline
import Derived.Deep.Cut
namespace Go.Proofs.YtjoggjjkafamlaaDoor
open Go.RowKit

theorem Tryd.infoInt : (Tryd.prog.info? 3).map (fun i => (i.zero, i.size, i.bytes)) = some (some (.int .i64 0), 1, 8) := by kernel_rfl

theorem assert_same (W : World) (n : Int) : (Instr.typeAssert (.iface 23 (.int .i64 n)) 27 23 true).run Tryd.prog W = .ok (.tuple #[.int .i64 n, .bool true]) W := by kernel_rfl

set_option maxRecDepth 100000 in
theorem same_pos (c : Int) (hc : 0 < c) (w : World) : Calls Tryd.prog 4 #[.iface 23 (.int .i64 c), .int .i64 c] w fun e w' => e = .returned (.bool true) ∧ w = w' := by
  have ha := fun W => assert_same W c
  go_enter Tryd.func4, Tryd.ntmps4
  go_wp2
  go_ret
  exact ⟨rfl, rfl⟩

set_option maxRecDepth 100000 in
theorem error8 (w : World) : Calls Tryd.prog 6 #[.int .i64 8] w fun e w' => e = .returned (.string ⟨#[102, 108, 105, 99, 107, 101, 114, 98, 111, 111, 107, 58, 32, 101, 114, 114, 111, 114, 32, 56]⟩) ∧ w = w' := by
  go_enter Tryd.func6, Tryd.ntmps6
  go_wp2
  go_ret
  exact ⟨congrArg (fun b : ByteArray => Ending.returned (.string b)) (by decide), rfl⟩

/-- two rows of the same numbers -/
theorem sameNumbers_own (w : World) (B n : Nat) (v0 v1 : Value) (zs : List Value) (hn : n ≤ 1000) (h0 : w.ownsRow B 3 1 v0 n zs) (h1 : w.ownsRow B 3 1 v1 n zs) (HZ : Hid (∀ j, j < n → ∃ z : Int, zs[j]? = some (.int .i64 z))) (hpos : n ≠ 0) :
    Calls Tryd.prog 5 #[v0, v1] w fun e w' => e = .returned (.bool true) ∧ Below w.heap.size w w' := by
  have sh : ∀ v, w.ownsRow B 3 1 v n zs → ∃ g cap, v = .slice (some ⟨g, 0, none⟩) n cap ∧ cap ≤ maxLen ∧ n ≤ cap := by
    intro v h
    rcases h.2 with ⟨_, h0⟩ | ⟨g, cap, cur, rfl, hb, hg, hn', hm, _⟩
    · exact absurd h0 hpos
    · exact ⟨g, cap, rfl, hm, hn'⟩
  obtain ⟨g0, c0, rfl, hm0, hc0⟩ := sh v0 h0
  obtain ⟨g1, c1, rfl, hm1, hc1⟩ := sh v1 h1
  have hne : ((n : Int) != (n : Int)) = false := by simp
  clear sh
  unfold maxLen at hm0 hm1
  go_enter Tryd.func5, Tryd.ntmps5
  go_wp2
  go_loopw [5] (fun i wq => ∃ (j : Nat), j ≤ n ∧ i = .int .i64 j ∧ ∃ q, wq = w.drewN q) (fun i _ => n - (intOf i).toNat)
  case atStart => exact ⟨0, by omega, rfl, 0, rfl⟩
  case round =>
    obtain ⟨j, hj, rfl, q, rfl⟩ := hrel
    by_cases hlt : j < n
    · obtain ⟨z, hz⟩ := HZ.out j hlt
      have e0 : w.cell? ⟨g0, j, none⟩ = some (.int .i64 z) := by rw [h0.cellAt j (by omega)]; exact hz
      have e1 : w.cell? ⟨g1, j, none⟩ = some (.int .i64 z) := by rw [h1.cellAt j (by omega)]; exact hz
      clear hz
      go_wp2
      go_quiet (fail)
      go_wp2
      go_roundw
      case rel => exact ⟨j + 1, by omega, by go_num, q + nq, rfl⟩
      case measure => simp [intOf]; omega
    · go_wp2
      go_ret
      exact ⟨rfl, ⟨rfl, rfl, rfl, Nat.le_refl _, fun _ _ => rfl⟩⟩

def cs13 : Array Value := #[.int .i64 255, .int .i64 8, .int .i64 20, .int .i64 6, .int .i64 60, .int .i64 3, .int .i64 9, .int .i64 99, .int .i64 400, .int .i64 40, .int .i64 4000, .int .i64 60, .int .i64 80]
def cs16 : Array Value := #[.int .i64 1, .int .i64 2, .int .i64 3, .int .i64 4, .int .i64 5, .int .i64 6, .int .i64 7, .int .i64 8, .int .i64 9, .int .i64 10, .int .i64 11, .int .i64 12, .int .i64 13, .int .i64 14, .int .i64 15, .int .i64 16]

theorem lit_cells (w : World) (cs : Array Value) (T : TypeId) : ∀ j u, cs.toList[j]? = some u → (w.alloc (.cells cs T)).cell? ((⟨w.heap.size, 0, none⟩ : Addr).add j) = some u := by
  intro j u hj
  have hadd : (⟨w.heap.size, 0, none⟩ : Addr).add j = ⟨w.heap.size, j, none⟩ := by unfold Addr.add; split <;> simp_all
  rw [hadd, cell_of_row (w.alloc (.cells cs T)) w.heap.size j cs T (0, 0) (heap_alloc_new w _)]
  simpa using hj
theorem one16 : ∀ u ∈ cs16.toList, u.oneCell' = true := by
  intro u hu
  simp [cs16] at hu
  rcases hu with rfl | rfl | rfl | rfl | rfl | rfl | rfl | rfl | rfl | rfl | rfl | rfl | rfl | rfl | rfl | rfl <;> rfl
theorem all29 : ∀ j, j < 29 → ∃ z : Int, (cs13.toList ++ cs16.toList)[j]? = some (.int .i64 z) := by
  intro j hj
  match j, hj with
  | 0, _ | 1, _ | 2, _ | 3, _ | 4, _ | 5, _ | 6, _ | 7, _ | 8, _ | 9, _ | 10, _ | 11, _ | 12, _ | 13, _ | 14, _ | 15, _ | 16, _ | 17, _ | 18, _ | 19, _ | 20, _ | 21, _ | 22, _ | 23, _ | 24, _ | 25, _ | 26, _ | 27, _ | 28, _ => exact ⟨_, rfl⟩
  | n + 29, hj => omega

theorem hide_own {W : World} {B : Nat} {e : TypeId} {size n : Nat} {v : Value} {xs : List Value} (h : W.ownsRow B e size v n xs) : Hid (W.ownsRow B e size v n xs) := h

theorem err_cells (w : World) (k : Nat) (hk : k < 8) : (w.alloc (.cells #[.iface 23 (.int .i64 1), .iface 23 (.int .i64 2), .iface 23 (.int .i64 3), .iface 23 (.int .i64 4), .iface 23 (.int .i64 5), .iface 23 (.int .i64 6), .iface 23 (.int .i64 7), .iface 23 (.int .i64 8)] 27)).cell? ⟨w.heap.size, k, none⟩ = some (.iface 23 (.int .i64 ((k : Int) + 1))) := by
  rw [cell_of_row _ w.heap.size k _ 27 (0, 0) (heap_alloc_new w _)]
  match k, hk with
  | 0, _ | 1, _ | 2, _ | 3, _ | 4, _ | 5, _ | 6, _ | 7, _ => rfl
  | n + 8, hk => omega

theorem own_ne {W : World} {B : Nat} {e : TypeId} {v : Value} {g : Nat} {xs ys : List Value} (h1 : W.ownsRow B e 1 v 29 xs) (h2 : W.ownsRow B e 1 (.slice (some ⟨g, 0, none⟩) 13 13) 13 ys) : v.ownBlock = none ∨ v.ownBlock ≠ (Value.slice (some ⟨g, 0, none⟩) 13 13).ownBlock := by
  right
  intro he
  rcases h1.2 with ⟨_, h0⟩ | ⟨g', cap, cur, rfl, _, hg, hn, _, hs, _⟩
  · omega
  · simp [Value.ownBlock] at he
    subst he
    rcases h2.2 with ⟨h, _⟩ | ⟨g2, cap2, cur2, h, _, hg2, _, _, hs2, _⟩
    · cases h
    · simp at h
      obtain ⟨rfl, rfl⟩ := h
      rw [hg] at hg2
      simp at hg2
      subst hg2
      omega

theorem below_app {w wr w2 : World} {v : Value} {n : Nat} {xs : List Value} {e : TypeId} {size : Nat} {ob : Obj} (hb : Below w.heap.size w wr) (hown : wr.ownsRow w.heap.size e size v n xs) (hg : (wr.alloc ob).grownBy w2 v.ownBlock) : Below w.heap.size w w2 := by
  refine (hb.alloc hb.size ob).grown hg (by have := hb.size; simp; omega) ?_
  intro k hk
  exact (hown.lt k hk).1

set_option maxHeartbeats 2000000 in
set_option maxRecDepth 100000 in
theorem names_any (w : World) : Calls Tryd.prog 3 #[] w fun e w' => e = .returned (.bool true) ∧ Below w.heap.size w w' := by
  obtain ⟨i0, hi, hz0, hz1, hz2⟩ := info_parts Tryd.infoInt
  have o1 : (w.alloc (.cells cs13 3)).ownsRow w.heap.size 3 1 (.slice (some ⟨w.heap.size, 0, none⟩) 13 13) 13 cs13.toList := World.ownsRow_lit w cs13 13 (Nat.le_refl _) (by decide) rfl
  have o2 : ((w.alloc (.cells cs13 3)).alloc (.cells cs13 3)).ownsRow w.heap.size 3 1 (.slice (some ⟨w.heap.size + 1, 0, none⟩) 13 13) 13 cs13.toList := by
    have := World.ownsRow_lit (base := w.heap.size) (e := 3) (size := 1) (w.alloc (.cells cs13 3)) cs13 13 (by simp) (by decide) rfl
    simpa using this
  have o1b := o1.alloc (.cells cs13 3)
  have HO1 := hide_own o1b
  have HO2 := hide_own o2
  clear o1 o2 o1b
  go_enter Tryd.func3, Tryd.ntmps3
  go_upto_region 3 with fail
  go_cut [1] from 5 (fun s1 wc => ∃ v1, v1 = s1 ∧ wc.ownsRow w.heap.size 3 1 v1 29 (cs13.toList ++ cs16.toList) ∧ wc.ownsRow w.heap.size 3 1 (.slice (some ⟨w.heap.size + 1, 0, none⟩) 13 13) 13 cs13.toList ∧ Below w.heap.size w wc)
  case first =>
    go_wp2_with (at_builtin; refine wpList_append_own _ rfl _ _ 22 rfl w.heap.size 3 i0 (.int .i64 0) 1 8 Tryd.underlying22 hi hz0 hz1 hz2 rfl (by decide) _ _ _ rfl (HO1.out.alloc _) ⟨w.heap.size + 1 + 1, 0, none⟩ 16 16 cs16.toList rfl rfl ?c1 ?c2 ?c3 ?c4 ?c5 ?_)
    case c1 =>
      intro j u hj
      have h := lit_cells ((w.alloc (.cells cs13 3)).alloc (.cells cs13 3)) cs16 3 j u hj
      rw [show ((w.alloc (.cells cs13 3)).alloc (.cells cs13 3)).heap.size = w.heap.size + 1 + 1 by simp] at h
      exact h
    case c2 => exact one16
    case c3 => decide
    case c4 => decide
    case c5 => simp; omega
    · intro v' w2 hown' hgrow _
      have hb2 : Below w.heap.size w w2 := below_app (((Below.refl _ _).alloc (Nat.le_refl _) _).alloc (by simp) _) HO1.out hgrow
      have ho2 : w2.ownsRow w.heap.size 3 1 (.slice (some ⟨w.heap.size + 1, 0, none⟩) 13 13) 13 cs13.toList := (HO2.out.alloc _).kept hgrow (.inr (by simp [Value.ownBlock]))
      have ho1 := hide_own hown'
      have ho2' := hide_own ho2
      clear hown' hgrow ho2
      go_wp2_with fail
      go_meet
      exact ⟨v', rfl, ho1.out, ho2'.out, hb2⟩
  case rest =>
    clear HO1 HO2
    obtain ⟨v1, rfl, ho1, ho2, hbc⟩ := hcut
    have HO1 := hide_own ho1
    have HO2 := hide_own ho2
    clear ho1 ho2
    go_upto_region 4 with fail
    go_cut [2] from 5 (fun s2 wd => ∃ v2, v2 = s2 ∧ wd.ownsRow w.heap.size 3 1 v1 29 (cs13.toList ++ cs16.toList) ∧ wd.ownsRow w.heap.size 3 1 v2 29 (cs13.toList ++ cs16.toList) ∧ Below w.heap.size w wd)
    case first =>
      go_wp2_with (at_builtin; refine wpList_append_own _ rfl _ _ 22 rfl w.heap.size 3 i0 (.int .i64 0) 1 8 Tryd.underlying22 hi hz0 hz1 hz2 rfl (by decide) _ _ _ rfl (HO2.out.alloc _) ⟨wc.heap.size, 0, none⟩ 16 16 cs16.toList rfl rfl ?d1 ?d2 ?d3 ?d4 ?d5 ?_)
      case d1 => exact lit_cells wc cs16 3
      case d2 => exact one16
      case d3 => decide
      case d4 => decide
      case d5 => have := hbc.size; simp; omega
      · intro v' w2 hown' hgrow _
        have hb2 : Below w.heap.size w w2 := below_app hbc HO2.out hgrow
        have ho1 : w2.ownsRow w.heap.size 3 1 v1 29 (cs13.toList ++ cs16.toList) := (HO1.out.alloc _).kept hgrow (own_ne HO1.out HO2.out)
        have ho2 := hide_own hown'
        have ho1' := hide_own ho1
        clear hown' hgrow ho1
        go_wp2_with fail
        go_meet
        exact ⟨v', rfl, ho1'.out, ho2.out, hb2⟩
    case rest =>
      clear hbc HO1 HO2
      obtain ⟨v2, rfl, ho1, ho2, hbc⟩ := hcut
      have HO1 := hide_own ho1
      have HO2 := hide_own ho2
      clear ho1 ho2
      obtain ⟨wx, rfl⟩ : ∃ wx : World, wx = wc := ⟨_, rfl⟩
      go_wp2_with fail
      go_loop [4] (fun i => ∃ k : Nat, k ≤ 8 ∧ i = .int .i64 k) (fun i => 8 - (intOf i).toNat)
      case atStart => exact ⟨0, by omega, rfl⟩
      case round =>
        obtain ⟨k, hk, rfl⟩ := hrel
        by_cases hlt : k < 8
        · have hck := err_cells wx k hlt
          go_wp2_with (go_at_call 4; refine (same_pos _ (by omega) _).mono ?_; rintro e w5 ⟨rfl, rfl⟩)
          go_round
          case rel => exact ⟨k + 1, by omega, by go_num⟩
          case measure => simp [intOf]; omega
        · go_wp2_with fail
          have hoa := HO1.out.alloc (.cells #[.iface 23 (.int .i64 1), .iface 23 (.int .i64 2), .iface 23 (.int .i64 3), .iface 23 (.int .i64 4), .iface 23 (.int .i64 5), .iface 23 (.int .i64 6), .iface 23 (.int .i64 7), .iface 23 (.int .i64 8)] 27)
          have hob := HO2.out.alloc (.cells #[.iface 23 (.int .i64 1), .iface 23 (.int .i64 2), .iface 23 (.int .i64 3), .iface 23 (.int .i64 4), .iface 23 (.int .i64 5), .iface 23 (.int .i64 6), .iface 23 (.int .i64 7), .iface 23 (.int .i64 8)] 27)
          refine (sameNumbers_own _ w.heap.size 29 v1 v2 _ (by decide) hoa hob all29 (by decide)).mono ?_
          rintro e w5 ⟨rfl, hb5⟩
          clear hoa hob
          go_wp2_with fail
          refine (error8 _).mono ?_
          rintro e w6 ⟨rfl, rfl⟩
          go_wp2_with fail
          go_ret
          exact ⟨rfl, (hbc.alloc hbc.size _).trans (hb5.mono (by have := hbc.size; simp; omega))⟩
end Go.Proofs.YtjoggjjkafamlaaDoor
