/- objects.Own walked. -/
import Derived.Test.YtkmolifgfbaboaaDoorOlC
import Derived.Lib.AppendZeros
namespace Go.Proofs.YtkmolifgfbaboaaDoor
open Go.RowKit

theorem Tryd.infoOb : (Tryd.prog.info? 41).map (fun i => (i.zero, i.size, i.bytes)) = some (some (.agg #[.int .i64 0, .int .i64 0, .int .i64 0, .int .i64 0, .int .i64 0, .slice none 0 0, .int .i64 0, .int .i64 0, .int .i64 0, .int .i64 0, .bool false]), 11, 104) := by kernel_rfl

/-- append where there is room: in place -/
theorem run_append_cap {P : Program} (w : World) (base : Nat) (t ty e : TypeId) (i : TypeInfo) (z : Value) (size bytes : Nat) (ht : P.underlying t = some (.slice e)) (hi : P.info? e = some i) (hz : i.zero = some z)
    (hsize : i.size = size) (hby : i.bytes = bytes) (hzs : z.cells.size = size) (hsz : 0 < size)
    (g n cap : Nat) (xs : List Value) (hown : w.ownsRow base e size (.slice (some ⟨g, 0, none⟩) n cap) n xs)
    (a : Addr) (m c : Nat) (news : List Value) (hl : news.length = m * size) (hnews : ∀ j u, news[j]? = some u → w.cell? (a.add j) = some u) (h1 : ∀ u ∈ news, u.oneCell' = true)
    (h63 : n + m ≤ maxLen) (hbytes : (n + m) * bytes ≤ 140737488355328) (hbase : base ≤ w.heap.size) (hroom : n + m ≤ cap) :
    ∃ w', (Builtin.append_ #[t, t] ty #[.slice (some ⟨g, 0, none⟩) n cap, .slice (some a) m c]).run P w = .ok (.slice (some ⟨g, 0, none⟩) (n + m) cap) w' ∧
      w'.ownsRow base e size (.slice (some ⟨g, 0, none⟩) (n + m) cap) (n + m) (xs ++ news) ∧ w.grownBy w' (some g) := by
  obtain ⟨v', w', hr, h2, h3, _⟩ := run_append_own (P := P) w base t ty e i z size bytes ht hi hz hsize hby hzs hsz _ n xs hown a m c news hl hnews h1 h63 hbytes hbase
  rcases hown.2 with ⟨h0, _⟩ | ⟨g', cap', cur, hv, _, hg, _, _, hcs, _⟩
  · simp at h0
  · simp only [Value.slice.injEq, Option.some.injEq, Addr.mk.injEq, and_true, true_and] at hv
    obtain ⟨rfl, rfl⟩ := hv
    have hr2 := run_append_room (P := P) w t ty e i ht hi g n cap cur hg a m c news (by rw [hsize]; exact hl) hnews h1 hroom (by rw [hl, hcs, hsize, ← Nat.add_mul]; exact Nat.mul_le_mul_right _ hroom)
    rw [hr] at hr2
    have e1 := (Result.ok.inj hr2).1
    subst e1
    exact ⟨w', hr, h2, h3⟩

theorem pix_one (x : Po) (u : Value) (hu : u.oneCell' = true) : ∀ v ∈ oCells x u, v.oneCell' = true := by
  intro v hv
  simp only [oCells, List.mem_cons, List.not_mem_nil, or_false] at hv
  rcases hv with rfl | rfl | rfl | rfl | rfl | rfl | rfl | rfl | rfl | rfl | rfl <;> first | rfl | exact hu
/-- eleven cells of a new block -/
theorem new_cells (W : World) (L : List Value) (T : TypeId) (j : Nat) (u : Value) (h : L[j]? = some u) : (W.alloc (.cells L.toArray T)).cell? ((⟨W.heap.size, 0, none⟩ : Addr).add j) = some u := by
  have e : (⟨W.heap.size, 0, none⟩ : Addr).add j = ⟨W.heap.size, j, none⟩ := by unfold Addr.add; split <;> simp_all
  rw [e]
  simpa using h
theorem hide_ob {w : World} {B : Nat} {v : Value} {qs : List (Po × Value)} (h : OwnOb w B v qs) : Hid (OwnOb w B v qs) := h

set_option maxHeartbeats 2000000 in
set_option maxRecDepth 100000 in
theorem ownO_any (v : Value) (os : List Po) (w : World) (hos : os.length ≤ 100) (hps : ∀ j, j < os.length → (os.getD j po0).ps.length ≤ 100) (HR : Hid (RdO w v os)) :
    Calls Tryd.prog 29 #[v] w fun e w' => ∃ g qs, e = .returned (.slice (some ⟨g, 0, none⟩) os.length (os.length + 1)) ∧ OwnOb w' w.heap.size (.slice (some ⟨g, 0, none⟩) os.length (os.length + 1)) qs ∧ qs.map Prod.fst = os ∧ Below w.heap.size w w' := by
  obtain ⟨i0, hi, hz0, hz1, hz2⟩ := info_parts Tryd.infoOb
  obtain ⟨a, cap, hv, hl, hcap⟩ := HR.out.shape
  have HPS : Hid (∀ j, j < os.length → (os.getD j po0).ps.length ≤ 100) := hps
  obtain ⟨n, HN⟩ : ∃ n, Hid (os.length = n) := ⟨_, (rfl : _ = _)⟩
  rw [HN.out] at hv hl hos ⊢
  clear hps
  subst hv
  have hbz : Below w.heap.size w w := Below.refl _ _
  go_enter Tryd.func29, Tryd.ntmps29
  go_wp2_with (at_make; refine wpList_make_own _ rfl _ _ 22 rfl w.heap.size 41 i0 (.agg #[.int .i64 0, .int .i64 0, .int .i64 0, .int .i64 0, .int .i64 0, .slice none 0 0, .int .i64 0, .int .i64 0, .int .i64 0, .int .i64 0, .bool false]) 11 Tryd.underlying22 hi hz0 hz1 _ _ _ (n + 1) rfl rfl ?a1 ?b1 ?b2 ?b3 ?_)
  case a1 => first | rfl | omega
  case b1 => rw [hz2]; omega
  case b2 => unfold maxLen; omega
  case b3 => exact Nat.le_refl _
  intro W0 hown0 hgrow0
  have hb0 : Below w.heap.size w W0 := (Below.refl _ _).grown hgrow0 (Nat.le_refl _) (by intro k hk; cases hk)
  have HO0 : Hid (OwnOb W0 w.heap.size (.slice (some ⟨w.heap.size, 0, none⟩) 0 (n + 1)) []) := ⟨hown0, by simp⟩
  clear hown0 hgrow0
  go_wp2_with fail
  go_loopw [3, 12] (fun o i wr => ∃ (k : Nat) (qs : List (Po × Value)), k ≤ n ∧ i = .int .i64 k ∧ o = .slice (some ⟨w.heap.size, 0, none⟩) k (n + 1) ∧ Hid (OwnOb wr w.heap.size (.slice (some ⟨w.heap.size, 0, none⟩) k (n + 1)) qs) ∧ Hid (qs.map Prod.fst = os.take k) ∧ Below w.heap.size w wr) (fun _ i _ => n - (intOf i).toNat)
  case atStart => exact ⟨0, [], by omega, rfl, rfl, HO0, (rfl : _ = _), hb0⟩
  case round =>
    obtain ⟨k, qs, hk, rfl, rfl, HO, HQ, hbr⟩ := hrel
    by_cases hlt : k < n
    · have hlt' : k < os.length := by rw [HN.out]; exact hlt
      obtain ⟨o, HX⟩ : ∃ o, Hid (os.getD k po0 = o) := ⟨_, (rfl : _ = _)⟩
      have hpl : o.ps.length ≤ 100 := by rw [← HX.out]; exact HPS.out k hlt'
      have HLQ : Hid (qs.length = k) := by
        have := congrArg List.length HQ.out
        unfold Hid
        simpa [Nat.min_eq_left (Nat.le_of_lt hlt')] using this
      have HQ2 : Hid (∀ u, (qs ++ [(o, u)]).map Prod.fst = os.take (k + 1)) := by
        intro u
        rw [List.map_append, HQ.out, List.take_succ_eq_append_getElem hlt', ← HX.out, List.getD_eq_getElem?_getD, List.getElem?_eq_getElem hlt']
        rfl
      obtain ⟨g, p, ua, q, uc, rfl, hg, OC, HU, HM⟩ := (HR.out.on hbr).at hlt HX
      obtain ⟨c0, c1, c2, c3, c4, c5, c6, c7, c8, c9, c10⟩ := OC
      obtain ⟨id, x, y, pw, ph, ps, cx, cy, cw, ch, sh⟩ := o
      simp only at c0 c1 c2 c3 c4 c5 c6 c7 c8 c9 c10 HU HM hpl
      clear hlt' HX
      have hki0 : (0 : Int) ≤ (k : Int) := by omega
      have hki1 : (k : Int) < (n : Int) := by omega
      have hbx : Below wr.heap.size wr (wr.alloc (.cells #[.int .i64 id, .int .i64 x, .int .i64 y, .int .i64 pw, .int .i64 ph, .slice ua q uc, .int .i64 cx, .int .i64 cy, .int .i64 cw, .int .i64 ch, .bool sh] 41)) := (Below.refl _ _).alloc (Nat.le_refl _) _
      have HUX := HU.out.on hbx
      have HOX := hide_ob (HO.out.on hbx)
      have hbX : Below w.heap.size w (wr.alloc (.cells #[.int .i64 id, .int .i64 x, .int .i64 y, .int .i64 pw, .int .i64 ph, .slice ua q uc, .int .i64 cx, .int .i64 cy, .int .i64 cw, .int .i64 ch, .bool sh] 41)) := hbr.alloc hbr.size _
      have HUY : Hid (RdP _ _ _) := HUX
      clear HUX HU hbx HO
      go_wp2_with fail
      refine (oown_any id x y pw ph _ ps cx cy cw ch sh _ hpl HUY).mono ?_
      unfold objV
      rintro e w1 ⟨u', rfl, hu, hb1⟩
      have HU1 : Hid (w1.ownsRow w.heap.size 33 2 u' ps.length (pixCells ps)) := own_mono hu (by have := hbX.size; omega)
      rw [HM.out] at HU1
      obtain ⟨va, vc, hu'⟩ := own_any HU1.out
      subst hu'
      have HO1 := hide_ob (HOX.out.on hb1)
      have hbw1 : Below w.heap.size w w1 := hbX.trans (hb1.mono hbX.size)
      clear hu hb1 HOX HUY hbX
      have hbx2 : Below w1.heap.size w1 (w1.alloc (.cells #[.int .i64 id, .int .i64 x, .int .i64 y, .int .i64 pw, .int .i64 ph, .slice va q vc, .int .i64 cx, .int .i64 cy, .int .i64 cw, .int .i64 ch, .bool sh] 41)) := (Below.refl _ _).alloc (Nat.le_refl _) _
      have HO2 := hide_ob (HO1.out.on hbx2)
      have HU2 := hide_own (own_on2 HU1.out hbx2)
      have hbw2 : Below w.heap.size w (w1.alloc (.cells #[.int .i64 id, .int .i64 x, .int .i64 y, .int .i64 pw, .int .i64 ph, .slice va q vc, .int .i64 cx, .int .i64 cy, .int .i64 cw, .int .i64 ch, .bool sh] 41)) := hbw1.alloc hbw1.size _
      have HO3 := HO2.out.1
      rw [HLQ.out] at HO3
      obtain ⟨w3, hr, h1, h2⟩ := run_append_cap (P := Tryd.prog) _ w.heap.size 22 22 41 i0 (.agg #[.int .i64 0, .int .i64 0, .int .i64 0, .int .i64 0, .int .i64 0, .slice none 0 0, .int .i64 0, .int .i64 0, .int .i64 0, .int .i64 0, .bool false]) 11 104 Tryd.underlying22 hi hz0 hz1 hz2 rfl (by decide) w.heap.size k (n + 1) _ HO3 ⟨w1.heap.size, 0, none⟩ 1 1 (oCells ⟨id, x, y, pw, ph, ps, cx, cy, cw, ch, sh⟩ (.slice va q vc)) rfl (new_cells w1 _ 41) (pix_one _ _ rfl) (by unfold maxLen; omega) (by omega) hbw2.size (by omega)
      have HO4 : Hid (OwnOb w3 w.heap.size (.slice (some ⟨w.heap.size, 0, none⟩) (k + 1) (n + 1)) (qs ++ [(⟨id, x, y, pw, ph, ps, cx, cy, cw, ch, sh⟩, .slice va q vc)])) := HO2.out.app (x := ⟨id, x, y, pw, ph, ps, cx, cy, cw, ch, sh⟩) (by simp only; rw [HM.out]; exact HU2.out) (by rw [HLQ.out]; exact h1) h2
      have hb3 : Below w.heap.size w w3 := hbw2.grown h2 hbw2.size (fun z hz => by simp at hz; omega)
      clear h1 h2 HO3 HO2 HO1 HU1 HU2 hbx2 hbw2
      go_wp2_with (at_builtin; refine Lib.wpList_append_run _ rfl _ _ _ _ rfl _ _ rfl rfl _ _ hr ?_)
      go_roundw
      case rel => exact ⟨k + 1, _, by omega, by go_num, rfl, HO4, HQ2.out _, hb3⟩
      case measure => simp [intOf]; omega
    · obtain rfl : k = n := by omega
      go_wp2_with fail
      go_ret
      refine ⟨_, qs, rfl, HO.out, ?_, hbr⟩
      rw [HQ.out, List.take_of_length_le (by rw [HN.out]; exact Nat.le_refl _)]
end Go.Proofs.YtkmolifgfbaboaaDoor
