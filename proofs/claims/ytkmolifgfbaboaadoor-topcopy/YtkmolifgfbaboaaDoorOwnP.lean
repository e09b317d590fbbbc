/- Walks: slices.Clone of any pixels (also none), picture.Own. -/
import Derived.Test.YtkmolifgfbaboaaDoorCloneA
import Derived.Test.YtkmolifgfbaboaaDoorBlk
namespace Go.Proofs.YtkmolifgfbaboaaDoor
open Go.RowKit

set_option maxHeartbeats 2000000 in
set_option maxRecDepth 100000 in
theorem cloneG_any (v : Value) (ps : List (Int × Int)) (w : World) (hps : ps.length ≤ 100) (HR : Hid (RdP w v ps)) :
    Calls Tryd.prog 55 #[v] w fun e w' => ∃ v', e = .returned v' ∧ w'.ownsRow w.heap.size 33 2 v' ps.length (pixCells ps) ∧ Below w.heap.size w w' := by
  by_cases hne : ps = []
  · subst hne
    obtain ⟨a, cap, hv, hlc, hcap, hh⟩ := HR.out
    clear hh
    simp only [List.length_nil] at hv
    subst hv
    obtain ⟨i0, hi, hz0, hz1, hz2⟩ := info_parts Tryd.infoPix
    cases a with
    | none =>
      have hnil : ∀ X, (binOp .eql 23 (.slice none 0 cap) (.slice none 0 0)).run Tryd.prog X = .ok (.bool true) X := fun X => run_eql_nil_slice X _ _ none 0 cap 0 0 Tryd.underlying23
      have hbr : Below w.heap.size w w := Below.refl _ _
      go_enter Tryd.func55, Tryd.ntmps55
      go_wp2_with fail
      go_ret
      exact ⟨_, rfl, World.ownsRow_nil _ _ _ _, hbr⟩
    | some a =>
      have hnil : ∀ X, (binOp .eql 23 (.slice (some a) 0 cap) (.slice none 0 0)).run Tryd.prog X = .ok (.bool false) X := fun X => run_eql_nil X _ _ _ Tryd.underlying23
      go_enter Tryd.func55, Tryd.ntmps55
      go_wp2_with (at_builtin; refine wpList_append_own _ rfl _ _ 23 rfl w.heap.size 33 i0 (.agg #[.int .i64 0, .int .i64 0]) 2 16 Tryd.underlying23 hi hz0 hz1 hz2 rfl (by decide) _ _ _ rfl (own_empty w 33 2) a 0 cap [] rfl (by simp) ?c1 ?c2 ?c3 ?c4 ?c5 ?_)
      case c1 => intro j u hj; simp at hj
      case c2 => intro u hu; simp at hu
      case c3 => unfold maxLen; omega
      case c4 => omega
      case c5 => simp
      · intro v' w3 hown' hgrow _
        have hb3 : Below w.heap.size w w3 := ((Below.refl _ _).alloc (Nat.le_refl _) _).grown hgrow (by simp) (by intro k hk; simp [Value.ownBlock] at hk; omega)
        have HO := hide_own hown'
        clear hown' hgrow
        obtain ⟨a', c', hv'⟩ := own_any HO.out
        subst hv'
        go_wp2
        go_ret
        exact ⟨_, rfl, HO.out, hb3⟩
  · exact clone_any v ps w hps hne HR

set_option maxHeartbeats 2000000 in
set_option maxRecDepth 100000 in
theorem pown_any (W H : Int) (v : Value) (ps : List (Int × Int)) (w : World) (hps : ps.length ≤ 100) (HR : Hid (RdP w v ps)) :
    Calls Tryd.prog 50 #[.agg #[.int .i64 W, .int .i64 H, v]] w fun e w' => ∃ v', e = .returned (.agg #[.int .i64 W, .int .i64 H, v']) ∧ w'.ownsRow (w.heap.size + 2) 33 2 v' ps.length (pixCells ps) ∧ Below w.heap.size w w' := by
  obtain ⟨a, cap, hv, hlc, hcap, _⟩ := HR.out
  obtain ⟨n, HN⟩ : ∃ n, Hid (ps.length = n) := ⟨_, (rfl : _ = _)⟩
  rw [HN.out] at hv
  subst hv
  have T0 := (three_start w (.int .i64 W) (.int .i64 H) (.slice a n cap) 25).alloc (.cells #[.int .i64 0, .int .i64 0, .slice none 0 0] 25)
  have T1 := three_begin (w.alloc (.cells #[.int .i64 W, .int .i64 H, .slice a n cap] 25)) (.int .i64 0) (.int .i64 0) (.slice none 0 0) 25 (w.heap.size + 1) (by simp)
  have hb0 : Below w.heap.size w ((w.alloc (.cells #[.int .i64 W, .int .i64 H, .slice a n cap] 25)).alloc (.cells #[.int .i64 0, .int .i64 0, .slice none 0 0] 25)) := ((Below.refl _ _).alloc (Nat.le_refl _) _).alloc (by simp) _
  have HR0 : Hid (RdP ((w.alloc (.cells #[.int .i64 W, .int .i64 H, .slice a n cap] 25)).alloc (.cells #[.int .i64 0, .int .i64 0, .slice none 0 0] 25)) (.slice a n cap) ps) := HR.out.on hb0
  go_enter Tryd.func50, Tryd.ntmps50
  go_wp2_with fail
  refine (cloneG_any _ ps _ hps HR0).mono ?_
  rintro e w1 ⟨v', rfl, ho, hb1⟩
  have HO : Hid (w1.ownsRow (w.heap.size + 2) 33 2 v' ps.length (pixCells ps)) := by unfold Hid; simpa using ho
  rw [HN.out] at HO
  obtain ⟨a', c', hv'⟩ := own_any HO.out
  subst hv'
  obtain ⟨c0, c1, c2, f0, f1, f2, lt⟩ := T0.on hb1
  obtain ⟨d0, d1, d2, g0, g1, g2, lt2⟩ := T1.on hb1
  have hbb := hb0.trans (hb1.mono hb0.size)
  clear ho hb0 hb1 T0 T1 HR0
  go_wp2_with fail
  refine bodyPost_ret (v := .agg #[.int .i64 W, .int .i64 H, .slice a' n c']) (by simp [results, Tryd.results50, go_sem, d0, d1, d2]) rfl ⟨_, rfl, ?_, ?_⟩
  · rw [HN.out]
    refine ownsRow_setCell_below (ownsRow_setCell_below (ownsRow_setCell_below (ownsRow_setCell_below (own_mono HO.out (Nat.le_refl _)) ?_ _) ?_ _) ?_ _) ?_ _
    all_goals (simp; try omega)
  · exact (((hbb.setCell (by simp) _).setCell (by simp) _).setCell (by simp) _).setCell (by simp) _
end Go.Proofs.YtkmolifgfbaboaaDoor
