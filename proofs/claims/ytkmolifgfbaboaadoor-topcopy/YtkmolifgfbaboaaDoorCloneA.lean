/- Walk of slices.Clone of pixels. -/
import Derived.Test.YtkmolifgfbaboaaDoorPixA
import Derived.Test.YtkmolifgfbaboaaDoorPixJ
import Derived.Laws.EntriesVeiled
namespace Go.Proofs.YtkmolifgfbaboaaDoor
open Go.RowKit

theorem Tryd.infoPix : (Tryd.prog.info? 33).map (fun i => (i.zero, i.size, i.bytes)) = some (some (.agg #[.int .i64 0, .int .i64 0]), 2, 16) := by kernel_rfl

theorem pixCells_length : ∀ ps : List (Int × Int), (pixCells ps).length = ps.length * 2
  | [] => rfl
  | (a, b) :: r => by simp [pixCells, pixCells_length r]; omega
theorem pixCells_at : ∀ (ps : List (Int × Int)) (j : Nat), j < ps.length → (pixCells ps)[j * 2]? = some (.int .i64 (ps.getD j (0, 0)).1) ∧ (pixCells ps)[j * 2 + 1]? = some (.int .i64 (ps.getD j (0, 0)).2)
  | [], j, h => by simp at h
  | (a, b) :: r, 0, h => by simp [pixCells]
  | (a, b) :: r, j + 1, h => by
    have := pixCells_at r j (by simpa using h)
    rw [show (j + 1) * 2 = j * 2 + 2 by omega]
    simpa [pixCells] using this
theorem pixCells_one : ∀ (ps : List (Int × Int)), ∀ u ∈ pixCells ps, u.oneCell' = true
  | [], u, h => by simp [pixCells] at h
  | (a, b) :: r, u, h => by
    simp only [pixCells, List.mem_cons] at h
    rcases h with rfl | rfl | h
    · rfl
    · rfl
    · exact pixCells_one r u h
theorem add_pl (b o i : Nat) : (⟨b, o, none⟩ : Addr).add i = ⟨b, o + i, none⟩ := by unfold Addr.add; split <;> simp_all
theorem rd_cells {w : World} {g off n cap : Nat} {ps : List (Int × Int)} (h : RdP w (.slice (some ⟨g, off, none⟩) n cap) ps) (hne : ps ≠ []) : ∀ j u, (pixCells ps)[j]? = some u → w.cell? ((⟨g, off, none⟩ : Addr).add j) = some u := by
  obtain ⟨a, c, hv, hl, hc, hh⟩ := h
  obtain ⟨g2, o2, ha, hg, hcell⟩ := hh hne
  simp only [Value.slice.injEq] at hv
  rw [ha] at hv
  simp only [Option.some.injEq, Addr.mk.injEq] at hv
  obtain ⟨⟨rfl, rfl, _⟩, rfl, rfl⟩ := hv
  intro j u hj
  have hlt : j < ps.length * 2 := by
    have := (List.getElem?_eq_some_iff.1 hj).1
    rw [pixCells_length] at this
    exact this
  have hd := hcell (j / 2) (by omega)
  have hp := pixCells_at ps (j / 2) (by omega)
  rw [add_pl]
  obtain ⟨q, hq⟩ : ∃ q, q = j / 2 := ⟨_, rfl⟩
  rw [← hq] at hd hp
  rcases (show j = q * 2 ∨ j = q * 2 + 1 by omega) with e | e
  · subst e
    rw [hp.1] at hj
    rw [← hj]; exact hd.1
  · subst e
    rw [hp.2] at hj
    rw [← hj, ← Nat.add_assoc]; exact hd.2

theorem own_shape {w : World} {B : Nat} {v : Value} {n : Nat} {xs : List Value} {e : TypeId} {size : Nat} (h : w.ownsRow B e size v n xs) (hn : n ≠ 0) :
    ∃ g cap, v = .slice (some ⟨g, 0, none⟩) n cap ∧ B ≤ g ∧ n ≤ cap ∧ cap ≤ maxLen := by
  rcases h.2 with ⟨_, h0⟩ | ⟨g, cap, cur, rfl, hb, hg, hn', hm, _⟩
  · exact absurd h0 hn
  · exact ⟨g, cap, rfl, hb, hn', hm⟩
theorem hide_own {W : World} {B : Nat} {e : TypeId} {size n : Nat} {v : Value} {xs : List Value} (h : W.ownsRow B e size v n xs) : Hid (W.ownsRow B e size v n xs) := h
theorem run_eql_nil {P : Program} (w : World) {t e : TypeId} (a : Addr) (l c : Nat) (h : P.underlying t = some (.slice e)) : (binOp .eql t (.slice (some a) l c) (.slice none 0 0)).run P w = .ok (.bool false) w := by
  have h : ∀ d : Nat, (Op.equalIn (d + 1) t (.slice (some a) l c) (.slice none 0 0)).run P w = .ok false w := fun d => by
    simp [Op.equalIn, run_underlying h]
  simp only [binOp]
  simp [Op.equal, Op.maxDepth, h 9999]

theorem own_empty (w : World) (T : TypeId) (size : Nat) : (w.alloc (.cells #[] T)).ownsRow w.heap.size T size (.slice (some ⟨w.heap.size, 0, none⟩) 0 0) 0 [] := by
  refine ⟨by simp, .inr ⟨w.heap.size, 0, #[], rfl, Nat.le_refl _, by show (w.heap.push _)[w.heap.size]? = _; simp, Nat.le_refl _, by simp [maxLen], by simp, by simp⟩⟩

set_option maxHeartbeats 2000000 in
set_option maxRecDepth 100000 in
theorem clone_any (v : Value) (ps : List (Int × Int)) (w : World) (hps : ps.length ≤ 100) (hne : ps ≠ []) (HR : Hid (RdP w v ps)) :
    Calls Tryd.prog 55 #[v] w fun e w' => ∃ v', e = .returned v' ∧ w'.ownsRow w.heap.size 33 2 v' ps.length (pixCells ps) ∧ Below w.heap.size w w' := by
  obtain ⟨i0, hi, hz0, hz1, hz2⟩ := info_parts Tryd.infoPix
  obtain ⟨a, cap, hv, hlc, hcap, hh⟩ := HR.out
  obtain ⟨g, off, rfl, hg, _⟩ := hh hne
  subst hv
  have hcells := rd_cells HR.out hne
  obtain ⟨n, HN⟩ : ∃ n, Hid (ps.length = n) := ⟨_, (rfl : _ = _)⟩
  clear hh
  have hnil : ∀ X, (binOp .eql 23 (.slice (some ⟨g, off, none⟩) ps.length cap) (.slice none 0 0)).run Tryd.prog X = .ok (.bool false) X := fun X => run_eql_nil X _ _ _ Tryd.underlying23
  go_enter Tryd.func55, Tryd.ntmps55
  have hcells1 : ∀ j u, (pixCells ps)[j]? = some u → (w.alloc (.cells #[] 33)).cell? ((⟨g, off, none⟩ : Addr).add j) = some u := by
    intro j u hj
    rw [add_pl, cell_old _ _ _ _ hg, ← add_pl]
    exact hcells j u hj
  clear hcells
  go_wp2_with (at_builtin; refine wpList_append_own _ rfl _ _ 23 rfl w.heap.size 33 i0 (.agg #[.int .i64 0, .int .i64 0]) 2 16 Tryd.underlying23 hi hz0 hz1 hz2 rfl (by decide) _ _ _ rfl (own_empty w 33 2) ⟨g, off, none⟩ ps.length cap (pixCells ps) rfl (pixCells_length ps) ?c1 ?c2 ?c3 ?c4 ?c5 ?_)
  case c1 => exact hcells1
  case c2 => exact pixCells_one ps
  case c3 => unfold maxLen; omega
  case c4 => omega
  case c5 => simp
  · intro v' w3 hown' hgrow _
    have hb3 : Below w.heap.size w w3 := ((Below.refl _ _).alloc (Nat.le_refl _) _).grown hgrow (by simp) (by intro k hk; simp [Value.ownBlock] at hk; omega)
    have HO := hide_own hown'
    clear hown' hgrow
    obtain ⟨a', c', hv'⟩ := own_any HO.out
    subst hv'
    go_wp2
    go_ret
    exact ⟨_, rfl, HO.out, hb3⟩
end Go.Proofs.YtkmolifgfbaboaaDoor
