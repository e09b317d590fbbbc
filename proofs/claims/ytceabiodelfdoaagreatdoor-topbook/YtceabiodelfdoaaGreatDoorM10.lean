/- Some of the walks, in one text. -/
import Derived.Test.YtceabiodelfdoaaGreatDoorM9
import Derived.Maps.OwnOps
/- Walk: machine.own. -/
namespace Go.Proofs.YtceabiodelfdoaaGreatDoor
open Go.RowKit Go.Maps

theorem Tryz.infoOp : (Tryz.prog.info? 48).map (fun i => (i.zero, i.size, i.bytes)) = some (some (.agg #[.int .i64 0, .int .i64 0, .int .i64 0, .int .i64 0, .int .i64 0, .int .i64 0, .int .i64 0, .int .i64 0, .slice none 0 0]), 9, 88) := by kernel_rfl
theorem q_one (x : Pq) (u : Value) (hu : u.oneCell' = true) : ∀ v ∈ qCells x u, v.oneCell' = true := by
  intro v hv
  simp only [qCells, List.mem_cons, List.not_mem_nil, or_false] at hv
  rcases hv with rfl | rfl | rfl | rfl | rfl | rfl | rfl | rfl | rfl <;> first | rfl | exact hu

set_option maxHeartbeats 8000000 in
set_option maxRecDepth 100000 in
theorem mown_any (v : Value) (qs : List Pq) (w : World) (hn : qs.length ≤ 100) (hps : ∀ j, j < qs.length → (qs.getD j pq0).ps.length ≤ 100) (HR : Hid (RdQ w v qs)) :
    Calls Tryz.prog 51 #[v] w fun e w' => ∃ v' qv, e = .returned v' ∧ OwnQ w' w.heap.size v' qv ∧ qv.map Prod.fst = qs ∧ Below w.heap.size w w' := by
  obtain ⟨i0, hi, hz0, hz1, hz2⟩ := info_parts Tryz.infoOp
  obtain ⟨a, cap, hv, hl, hcap⟩ := HR.out.shape
  have HPS : Hid (∀ j, j < qs.length → (qs.getD j pq0).ps.length ≤ 100) := hps
  obtain ⟨n, HN⟩ : ∃ n, Hid (qs.length = n) := ⟨_, (rfl : _ = _)⟩
  rw [HN.out] at hv hl hn
  clear hps
  subst hv
  go_enter Tryz.func51, Tryz.ntmps51
  go_wp2_with (at_make; refine wpList_make_own _ rfl _ _ 22 rfl w.heap.size 48 i0 (.agg #[.int .i64 0, .int .i64 0, .int .i64 0, .int .i64 0, .int .i64 0, .int .i64 0, .int .i64 0, .int .i64 0, .slice none 0 0]) 9 Tryz.underlying22 hi hz0 hz1 _ _ _ n rfl rfl ?a1 ?b1 ?b2 ?b3 ?_)
  case a1 => first | rfl | omega
  case b1 => rw [hz2]; omega
  case b2 => unfold maxLen; omega
  case b3 => exact Nat.le_refl _
  intro W0 hown0 hgrow0
  have hb0 : Below w.heap.size w W0 := (Below.refl _ _).grown hgrow0 (Nat.le_refl _) (by intro k hk; cases hk)
  have HO0 : Hid (OwnQ W0 w.heap.size (.slice (some ⟨w.heap.size, 0, none⟩) 0 n) []) := ⟨hown0, by simp⟩
  clear hown0 hgrow0
  go_wp2_with fail
  go_loopw [3, 11] (fun o i wr => ∃ (k : Nat) (qv : List (Pq × Value)) (oa : Option Addr) (oc : Nat), k ≤ n ∧ i = .int .i64 k ∧ o = .slice oa k oc ∧ Hid (qv.length = k) ∧ Hid (OwnQ wr w.heap.size (.slice oa k oc) qv) ∧ Hid (qv.map Prod.fst = qs.take k) ∧ Below w.heap.size w wr) (fun _ i _ => n - (intOf i).toNat)
  case atStart => exact ⟨0, [], _, _, by omega, rfl, rfl, rfl, HO0, (rfl : _ = _), hb0⟩
  case round =>
    obtain ⟨k, qv, oa, oc, hk, rfl, rfl, HLQ, HO, HQ, hbr⟩ := hrel
    by_cases hlt : k < n
    · have hlt' : k < qs.length := by rw [HN.out]; exact hlt
      obtain ⟨q, HX⟩ : ∃ o, Hid (qs.getD k pq0 = o) := ⟨_, (rfl : _ = _)⟩
      have hpl : q.ps.length ≤ 100 := by rw [← HX.out]; exact HPS.out k hlt'
      have HQ2 : Hid (∀ u, (qv ++ [(q, u)]).map Prod.fst = qs.take (k + 1)) := by
        intro u
        rw [List.map_append, HQ.out, List.take_succ_eq_append_getElem hlt', ← HX.out, getD_pq hlt']
        rfl
      obtain ⟨g, p, ua, mu, uc, rfl, hg, OC, HU, HMU⟩ := (HR.out.on hbr).at hlt HX
      obtain ⟨c0, c1, c2, c3, c4, c5, c6, c7, c8⟩ := OC
      obtain ⟨kd, qid, qa, qb, qc, qd, qw, qh, qp⟩ := q
      simp only at c0 c1 c2 c3 c4 c5 c6 c7 c8 HU HMU hpl
      clear hlt' HX
      have hki0 : (0 : Int) ≤ (k : Int) := by omega
      have hki1 : (k : Int) < (n : Int) := by omega
      have hbx : Below wr.heap.size wr (wr.alloc (.cells #[.int .i64 kd, .int .i64 qid, .int .i64 qa, .int .i64 qb, .int .i64 qc, .int .i64 qd, .int .i64 qw, .int .i64 qh, .slice ua mu uc] 48)) := (Below.refl _ _).alloc (Nat.le_refl _) _
      have N0 := nine_start wr (.int .i64 kd) (.int .i64 qid) (.int .i64 qa) (.int .i64 qb) (.int .i64 qc) (.int .i64 qd) (.int .i64 qw) (.int .i64 qh) (.slice ua mu uc) 48 wr.heap.size rfl
      have HUX : Hid (RdP (wr.alloc (.cells #[.int .i64 kd, .int .i64 qid, .int .i64 qa, .int .i64 qb, .int .i64 qc, .int .i64 qd, .int .i64 qw, .int .i64 qh, .slice ua mu uc] 48)) (.slice ua mu uc) qp) := HU.out.on hbx
      have HOX : Hid (OwnQ (wr.alloc (.cells #[.int .i64 kd, .int .i64 qid, .int .i64 qa, .int .i64 qb, .int .i64 qc, .int .i64 qd, .int .i64 qw, .int .i64 qh, .slice ua mu uc] 48)) w.heap.size (.slice oa k oc) qv) := HO.out.on hbx
      have hbX := hbr.trans (hbx.mono hbr.size)
      clear HU
      go_wp2_with fail
      refine (pown_any qw qh _ qp _ hpl HUX).mono ?_
      rintro e w1 ⟨u', rfl, hu, hb1⟩
      rw [HMU.out] at hu
      obtain ⟨va, vc, hu'⟩ := own_any hu
      subst hu'
      have hb3 : Below wr.heap.size wr (((w1.setCell ⟨wr.heap.size, 6, none⟩ (.int .i64 qw)).setCell ⟨wr.heap.size, 7, none⟩ (.int .i64 qh)).setCell ⟨wr.heap.size, 8, none⟩ (.slice va mu vc)) := (((hbx.trans (hb1.mono hbx.size)).setCell (Nat.le_refl _) _).setCell (Nat.le_refl _) _).setCell (Nat.le_refl _) _
      have hbb3 := hbr.trans (hb3.mono hbr.size)
      have hu3 : (((w1.setCell ⟨wr.heap.size, 6, none⟩ (.int .i64 qw)).setCell ⟨wr.heap.size, 7, none⟩ (.int .i64 qh)).setCell ⟨wr.heap.size, 8, none⟩ (.slice va mu vc)).ownsRow ((wr.alloc (.cells #[.int .i64 kd, .int .i64 qid, .int .i64 qa, .int .i64 qb, .int .i64 qc, .int .i64 qd, .int .i64 qw, .int .i64 qh, .slice ua mu uc] 48)).heap.size + 2) 52 2 (.slice va mu vc) mu (pixCells qp) := ownsRow_setCell_below (ownsRow_setCell_below (ownsRow_setCell_below hu (a := ⟨wr.heap.size, 6, none⟩) (by simp; omega) _) (a := ⟨wr.heap.size, 7, none⟩) (by simp; omega) _) (a := ⟨wr.heap.size, 8, none⟩) (by simp; omega) _
      have HU3 : Hid ((((w1.setCell ⟨wr.heap.size, 6, none⟩ (.int .i64 qw)).setCell ⟨wr.heap.size, 7, none⟩ (.int .i64 qh)).setCell ⟨wr.heap.size, 8, none⟩ (.slice va mu vc)).ownsRow w.heap.size 52 2 (.slice va mu vc) mu (pixCells qp)) := own_mono hu3 (by have := hbX.size; omega)
      have HO3 : Hid (OwnQ (((w1.setCell ⟨wr.heap.size, 6, none⟩ (.int .i64 qw)).setCell ⟨wr.heap.size, 7, none⟩ (.int .i64 qh)).setCell ⟨wr.heap.size, 8, none⟩ (.slice va mu vc)) w.heap.size (.slice oa k oc) qv) := HO.out.on hb3
      have hb4 : Below (((w1.setCell ⟨wr.heap.size, 6, none⟩ (.int .i64 qw)).setCell ⟨wr.heap.size, 7, none⟩ (.int .i64 qh)).setCell ⟨wr.heap.size, 8, none⟩ (.slice va mu vc)).heap.size (((w1.setCell ⟨wr.heap.size, 6, none⟩ (.int .i64 qw)).setCell ⟨wr.heap.size, 7, none⟩ (.int .i64 qh)).setCell ⟨wr.heap.size, 8, none⟩ (.slice va mu vc)) ((((w1.setCell ⟨wr.heap.size, 6, none⟩ (.int .i64 qw)).setCell ⟨wr.heap.size, 7, none⟩ (.int .i64 qh)).setCell ⟨wr.heap.size, 8, none⟩ (.slice va mu vc)).alloc (.cells #[.int .i64 kd, .int .i64 qid, .int .i64 qa, .int .i64 qb, .int .i64 qc, .int .i64 qd, .int .i64 qw, .int .i64 qh, .slice va mu vc] 48)) := (Below.refl _ _).alloc (Nat.le_refl _) _
      have HU4 : Hid (((((w1.setCell ⟨wr.heap.size, 6, none⟩ (.int .i64 qw)).setCell ⟨wr.heap.size, 7, none⟩ (.int .i64 qh)).setCell ⟨wr.heap.size, 8, none⟩ (.slice va mu vc)).alloc (.cells #[.int .i64 kd, .int .i64 qid, .int .i64 qa, .int .i64 qb, .int .i64 qc, .int .i64 qd, .int .i64 qw, .int .i64 qh, .slice va mu vc] 48)).ownsRow w.heap.size 52 2 (.slice va mu vc) mu (pixCells qp)) := own_on2 HU3.out hb4
      have HO4 : Hid (OwnQ ((((w1.setCell ⟨wr.heap.size, 6, none⟩ (.int .i64 qw)).setCell ⟨wr.heap.size, 7, none⟩ (.int .i64 qh)).setCell ⟨wr.heap.size, 8, none⟩ (.slice va mu vc)).alloc (.cells #[.int .i64 kd, .int .i64 qid, .int .i64 qa, .int .i64 qb, .int .i64 qc, .int .i64 qd, .int .i64 qw, .int .i64 qh, .slice va mu vc] 48)) w.heap.size (.slice oa k oc) qv) := HO3.out.on hb4
      have HO5 := HO4.out.1
      rw [HLQ.out] at HO5
      have HO6 := hid_of2 HO5
      have hbb4 := hbb3.trans (hb4.mono hbb3.size)
      have hws : w.heap.size ≤ ((((w1.setCell ⟨wr.heap.size, 6, none⟩ (.int .i64 qw)).setCell ⟨wr.heap.size, 7, none⟩ (.int .i64 qh)).setCell ⟨wr.heap.size, 8, none⟩ (.slice va mu vc)).alloc (.cells #[.int .i64 kd, .int .i64 qid, .int .i64 qa, .int .i64 qb, .int .i64 qc, .int .i64 qd, .int .i64 qw, .int .i64 qh, .slice va mu vc] 48)).heap.size := hbb4.size
      have hW3 : (((w1.setCell ⟨wr.heap.size, 6, none⟩ (.int .i64 qw)).setCell ⟨wr.heap.size, 7, none⟩ (.int .i64 qh)).setCell ⟨wr.heap.size, 8, none⟩ (.slice va mu vc)).heap.size = w1.heap.size := by simp
      have HWS := hid_of2 hW3
      obtain ⟨m0, m1, m2, m3, m4, m5, m6, m7, m8, mf0, mf1, mf2, mf3, mf4, mf5, mf6, mf7, mf8, mlt⟩ := N0.on hb1
      clear hb1 HOX HUX hbX N0 hu hu3 HU3 HO3 hb4 HO5 hW3 hbx hb3 hbb3
      go_wp2_with (at_builtin; refine wpList_append_own _ rfl _ _ 22 rfl w.heap.size 48 i0 (.agg #[.int .i64 0, .int .i64 0, .int .i64 0, .int .i64 0, .int .i64 0, .int .i64 0, .int .i64 0, .int .i64 0, .slice none 0 0]) 9 88 Tryz.underlying22 hi hz0 hz1 hz2 rfl (by decide) _ k _ rfl HO6.out ⟨w1.heap.size, 0, none⟩ 1 1 (qCells ⟨kd, qid, qa, qb, qc, qd, qw, qh, qp⟩ (.slice va mu vc)) rfl rfl ?c1 ?c2 ?c3 ?c4 ?c5 ?_)
      case c1 => intro j u hj; rw [← HWS.out]; exact new_cells (((w1.setCell ⟨wr.heap.size, 6, none⟩ (.int .i64 qw)).setCell ⟨wr.heap.size, 7, none⟩ (.int .i64 qh)).setCell ⟨wr.heap.size, 8, none⟩ (.slice va mu vc)) _ _ j u hj
      case c2 => exact q_one _ _ rfl
      case c3 => unfold maxLen; omega
      case c4 => omega
      case c5 => exact hws
      intro v' w5 ho5 hg5 _
      obtain ⟨a', c', hv'⟩ := own_any ho5
      subst hv'
      have HO7 : Hid (OwnQ w5 w.heap.size (.slice a' (k + 1) c') (qv ++ [(⟨kd, qid, qa, qb, qc, qd, qw, qh, qp⟩, .slice va mu vc)])) := HO4.out.app (x := ⟨kd, qid, qa, qb, qc, qd, qw, qh, qp⟩) (by simp only; rw [HMU.out]; exact HU4.out) (by rw [HLQ.out]; exact ho5) hg5
      have hb5 : Below w.heap.size w w5 := hbb4.grown hg5 hbb4.size (fun z hz => (HO6.out.lt z hz).1)
      have HL7 : Hid ((qv ++ [((⟨kd, qid, qa, qb, qc, qd, qw, qh, qp⟩ : Pq), Value.slice va mu vc)]).length = k + 1) := by unfold Hid; rw [List.length_append, HLQ.out]; rfl
      clear ho5 hg5 HO4 HO6 HU4 hbb4 hws HWS m0 m1 m2 m3 m4 m5 m6 m7 m8 mf0 mf1 mf2 mf3 mf4 mf5 mf6 mf7 mf8 mlt c0 c1 c2 c3 c4 c5 c6 c7 c8
      go_wp2_with fail
      go_roundw
      case rel => exact ⟨k + 1, _, _, _, by omega, by go_num, rfl, HL7, HO7, HQ2.out _, hb5⟩
      case measure => simp [intOf]; omega
    · obtain rfl : k = n := by omega
      go_wp2_with fail
      go_ret
      refine ⟨_, qv, rfl, HO.out, ?_, hbr⟩
      rw [HQ.out, List.take_of_length_le (by rw [HN.out]; exact Nat.le_refl _)]
end Go.Proofs.YtceabiodelfdoaaGreatDoor
/- Walks: book.opens, book.Check. -/
namespace Go.Proofs.YtceabiodelfdoaaGreatDoor
open Go.RowKit

set_option maxHeartbeats 2000000 in
set_option maxRecDepth 100000 in
theorem opens_any (q : Pq) (u : Value) (w : World) : Calls Tryz.prog 21 #[opV q u] w fun e w' => e = .returned (.int .i64 (opn q)) ∧ Below w.heap.size w w' := by
  have hb : Below w.heap.size w (w.alloc (.cells #[.int .i64 q.kind, .int .i64 q.id, .int .i64 q.a, .int .i64 q.b, .int .i64 q.c, .int .i64 q.d, .int .i64 q.pw, .int .i64 q.ph, u] 48)) := (Below.refl _ _).alloc (Nat.le_refl _) _
  rcases opn_cases q with ⟨h1, h2⟩ | ⟨h1, h2⟩ | ⟨h1, h3, h2⟩
  · rw [h2]
    have b1 : (q.kind == 12) = true := by simpa using h1
    obtain ⟨kd, qid, qa, qb, qc, qd, qw, qh, qp⟩ := q
    simp only at h1
    subst h1
    clear h2 b1
    go_enter Tryz.func21, Tryz.ntmps21
    go_wp2_with fail
    go_ret
    exact ⟨rfl, hb⟩
  · rw [h2]
    obtain ⟨kd, qid, qa, qb, qc, qd, qw, qh, qp⟩ := q
    simp only at h1
    subst h1
    clear h2
    go_enter Tryz.func21, Tryz.ntmps21
    go_wp2_with fail
    go_ret
    exact ⟨rfl, hb⟩
  · rw [h2]
    have b1 : (q.kind == 12) = false := by simpa using h1
    have b2 : (q.kind == 13) = false := by simpa using h3
    clear h1 h3 h2
    go_enter Tryz.func21, Tryz.ntmps21
    go_wp2_with fail
    go_ret
    exact ⟨rfl, hb⟩

theorem getD_dropB (qs : List Pq) (k : Nat) (h : k < qs.length) : qs.drop k = qs.getD k pq0 :: qs.drop (k + 1) := by rw [getD_pq h]; exact (List.getElem_cons_drop h).symm
theorem neq_bb (x y : Bool) : (x == y) = decide (x = y) := by cases x <;> cases y <;> rfl

set_option maxHeartbeats 8000000 in
set_option maxRecDepth 100000 in
theorem bookCheck_any (v : Value) (qs : List Pq) (w : World) (HS : Hid (Shapes w)) (h1 : 0 < w.heap.size) (HR : Hid (RdQ w v qs)) (hps : ∀ j, j < qs.length → (qs.getD j pq0).ps.length ≤ 1000) (hnq : qs.length ≤ 1000) (c : Nat) (HC : Hid (bkC qs = c)) :
    Calls Tryz.prog 9 #[v] w fun e w' => e = .returned (errV c) ∧ Below w.heap.size w w' := by
  obtain ⟨a, cap, hv, hl, hcap⟩ := HR.out.shape
  have HPS : Hid (∀ j, j < qs.length → (qs.getD j pq0).ps.length ≤ 1000) := hps
  obtain ⟨n, HN⟩ : ∃ n, Hid (qs.length = n) := ⟨_, (rfl : _ = _)⟩
  rw [HN.out] at hv hl hnq
  clear hps
  subst hv
  have HC1 := HC
  unfold bkC at HC1
  rw [HN.out] at HC1
  have hbw : Below w.heap.size w w := Below.refl _ _
  by_cases hn2 : n < 2
  · have hc3 : c = 3 := by have := HC1.out; rw [if_pos (.inl hn2)] at this; exact this.symm
    subst hc3
    have hn2i : (n : Int) < 2 := by omega
    clear HC1 HC
    rw [show errV 3 = Value.iface 62 (.int .i64 3) from rfl]
    go_enter Tryz.func9, Tryz.ntmps9
    go_wp2_with fail
    go_ret
    exact ⟨rfl, hbw⟩
  have hn2i : ¬ (n : Int) < 2 := by omega
  obtain ⟨z0, HX0⟩ : ∃ x, Hid (qs.getD 0 pq0 = x) := ⟨_, (rfl : _ = _)⟩
  obtain ⟨zl, HXL⟩ : ∃ x, Hid (qs.getD (n - 1) pq0 = x) := ⟨_, (rfl : _ = _)⟩
  rw [HX0.out, HXL.out] at HC1
  obtain ⟨g, o, _, _, _, ha, hg, OC0, _, _⟩ := HR.out.at (k := 0) (by omega) HX0
  obtain ⟨g', o', _, _, _, ha', _, OCL, _, _⟩ := HR.out.at (k := n - 1) (by omega) HXL
  rw [ha] at ha'
  simp only [Option.some.injEq, Addr.mk.injEq, and_true] at ha'
  obtain ⟨rfl, rfl⟩ := ha'
  subst ha
  have k0 := OC0.c0
  have kl := OCL.c0
  rw [Nat.zero_mul, Nat.add_zero] at k0
  clear OC0 OCL
  have hw1 : IntKind.i64.wrap ((n : Int) - 1) = ((n - 1 : Nat) : Int) := by rw [wrap_s (by omega) (by omega)]; omega
  obtain ⟨m, HM⟩ : ∃ m, Hid (n - 1 = m) := ⟨_, (rfl : _ = _)⟩
  rw [HM.out] at hw1 kl
  have hmn : m < n := by have := HM.out; omega
  have hi1 : (0 : Int) ≤ (m : Int) := by omega
  have hi2 : (m : Int) < (n : Int) := by omega
  have hi3 : (0 : Int) < (n : Int) := by omega
  have hmn1 : Hid (m + 1 = n) := by have := HM.out; unfold Hid; omega
  by_cases hz0 : z0.kind = 1
  case neg =>
    have b0 : (z0.kind != 1) = true := by simpa using hz0
    have hc3 : c = 3 := by have := HC1.out; rw [if_pos (.inr (.inl hz0))] at this; exact this.symm
    subst hc3
    clear HC1 HC hz0
    rw [show errV 3 = Value.iface 62 (.int .i64 3) from rfl]
    go_enter Tryz.func9, Tryz.ntmps9
    go_wp2_with fail
    go_ret
    exact ⟨rfl, hbw⟩
  have b0 : (z0.kind != 1) = false := by simpa using hz0
  by_cases hzl : zl.kind = 16
  case neg =>
    have b1 : (zl.kind != 16) = true := by simpa using hzl
    have hc3 : c = 3 := by have := HC1.out; rw [if_pos (.inr (.inr hzl))] at this; exact this.symm
    subst hc3
    clear HC1 HC hzl hz0
    rw [show errV 3 = Value.iface 62 (.int .i64 3) from rfl]
    go_enter Tryz.func9, Tryz.ntmps9
    go_wp2_with fail
    go_ret
    exact ⟨rfl, hbw⟩
  have b1 : (zl.kind != 16) = false := by simpa using hzl
  rw [if_neg (by omega)] at HC1
  clear hz0 hzl
  by_cases hn60 : 60 < n
  · have hc2 : c = 2 := by have := HC1.out; rw [if_pos hn60] at this; exact this.symm
    subst hc2
    have hn60i : (60 : Int) < (n : Int) := by omega
    clear HC1 HC
    rw [show errV 2 = Value.iface 62 (.int .i64 2) from rfl]
    go_enter Tryz.func9, Tryz.ntmps9
    go_wp2_with fail
    go_ret
    exact ⟨rfl, hbw⟩
  rw [if_neg hn60] at HC1
  have hn60i : ¬ (60 : Int) < (n : Int) := by omega
  have HC2 : Hid (bkR n 0 (dep qs 0) (qs.drop 0) = c) := by unfold Hid; rw [dep_zero]; exact HC1.out
  clear HC1 HC
  have HD : Hid (∀ k, k ≤ n → -60 ≤ dep qs k ∧ dep qs k ≤ 60) := by
    have : ∀ k, k ≤ qs.length → -(k : Int) ≤ dep qs k ∧ dep qs k ≤ k := by
      intro k
      induction k with
      | zero => intro _; rw [dep_zero]; omega
      | succ k ih =>
        intro hk
        have := ih (by omega)
        rw [dep_succ qs k (by omega)]
        rcases opn_cases (qs.getD k pq0) with ⟨_, h2⟩ | ⟨_, h2⟩ | ⟨_, _, h2⟩ <;> omega
    rw [HN.out] at this
    intro k hk
    have := this k hk
    omega
  go_enter Tryz.func9, Tryz.ntmps9
  go_wp2_with fail
  clear k0 kl hi1 hi2 hi3
  go_loopw [4, 36] (fun d i wr => ∃ k : Nat, k ≤ n ∧ i = .int .i64 k ∧ d = .int .i64 (dep qs k) ∧ Hid (bkR n k (dep qs k) (qs.drop k) = c) ∧ Below w.heap.size w wr) (fun _ i _ => n - (intOf i).toNat)
  case atStart => exact ⟨0, by omega, rfl, by rw [dep_zero], HC2, Below.refl _ _⟩
  case round =>
    obtain ⟨k, hk, rfl, rfl, HCK, hbr⟩ := hrel
    by_cases hlt : k < n
    · have hlt' : k < qs.length := by rw [HN.out]; exact hlt
      have hd := HD.out k hk
      have hd1 := HD.out (k + 1) (by omega)
      have hds := dep_succ qs k hlt'
      rw [getD_dropB qs k hlt'] at HCK
      obtain ⟨q, HX⟩ : ∃ q, Hid (qs.getD k pq0 = q) := ⟨_, (rfl : _ = _)⟩
      have hpl : q.ps.length ≤ 1000 := by rw [← HX.out]; exact HPS.out k hlt'
      rw [HX.out] at HCK hds
      obtain ⟨d, HDK⟩ : ∃ d, Hid (dep qs k = d) := ⟨_, (rfl : _ = _)⟩
      obtain ⟨d1, HDK1⟩ : ∃ d, Hid (dep qs (k + 1) = d) := ⟨_, (rfl : _ = _)⟩
      rw [HDK.out] at HCK hds hd ⊢
      rw [HDK1.out] at hds hd1
      have HDS : Hid (d1 = d + opn q) := hds
      clear hds
      obtain ⟨g', o', ua, mu, uc, ha', hg', OC, HU, HMU⟩ := (HR.out.on hbr).at hlt HX
      simp only [Option.some.injEq, Addr.mk.injEq, and_true] at ha'
      obtain ⟨rfl, rfl⟩ := ha'
      obtain ⟨kd, qid, qa, qb, qc, qd, qw, qh, qp⟩ := q
      obtain ⟨c0, c1, c2, c3, c4, c5, c6, c7, c8⟩ := OC
      simp only at c0 c1 c2 c3 c4 c5 c6 c7 c8 HU HMU hpl
      have hbx : Below wr.heap.size wr (wr.alloc (.cells #[.int .i64 kd, .int .i64 qid, .int .i64 qa, .int .i64 qb, .int .i64 qc, .int .i64 qd, .int .i64 qw, .int .i64 qh, .slice ua mu uc] 48)) := (Below.refl _ _).alloc (Nat.le_refl _) _
      have N0 := nine_start wr (.int .i64 kd) (.int .i64 qid) (.int .i64 qa) (.int .i64 qb) (.int .i64 qc) (.int .i64 qd) (.int .i64 qw) (.int .i64 qh) (.slice ua mu uc) 48 wr.heap.size rfl
      have HUX : Hid (RdP _ (.slice ua mu uc) qp) := HU.out.on hbx
      have hbX := hbr.trans (hbx.mono hbr.size)
      have HSX : Hid (Shapes _) := HS.out.on h1 hbX
      have h1X := Nat.lt_of_lt_of_le h1 hbX.size
      have hki0 : (0 : Int) ≤ (k : Int) := by omega
      have hki1 : (k : Int) < (n : Int) := by omega
      obtain ⟨cc, HCC⟩ : ∃ cc, Hid (opC ⟨kd, qid, qa, qb, qc, qd, qw, qh, qp⟩ = cc) := ⟨_, (rfl : _ = _)⟩
      clear HU hbx hlt' HX
      go_wp2_with fail
      refine (opCheck_any ⟨kd, qid, qa, qb, qc, qd, qw, qh, qp⟩ _ _ HSX h1X HUX (by simp only; omega) cc HCC).mono ?_
      rintro e w2 ⟨rfl, hb2⟩
      have N2 := N0.on hb2
      have hbb := hbX.trans (hb2.mono hbX.size)
      clear hb2 N0 HUX HSX h1X hbX c0 c1 c2 c3 c4 c5 c6 c7 c8
      have HCK1 := HCK
      unfold bkR at HCK1
      rw [HCC.out] at HCK1
      cases cc with
      | succ cc =>
        have hcc : c = cc + 1 := by have := HCK1.out; rw [if_pos (by omega)] at this; exact this.symm
        subst hcc
        clear HCK HCK1
        rw [show errV (cc + 1) = .iface 62 (.int .i64 ((cc + 1 : Nat) : Int)) from rfl]
        go_wp2_with fail
        go_ret
        exact ⟨rfl, hbb⟩
      | zero =>
        rw [if_neg (by omega)] at HCK1
        rw [show errV 0 = Value.nilIface from rfl]
        simp only at HCK1
        obtain ⟨m0, m1, m2, m3, m4, m5, m6, m7, m8, mf0, mf1, mf2, mf3, mf4, mf5, mf6, mf7, mf8, mlt⟩ := N2
        have e1 : (kd == 1) = decide (kd = 1) := rfl
        have e2 : ((k : Int) == 0) = decide (k = 0) := by rw [Bool.eq_iff_iff]; simp
        have e3 : (kd == 16) = decide (kd = 16) := rfl
        have e4 : ((k : Int) == (m : Int)) = decide (k + 1 = n) := by rw [Bool.eq_iff_iff]; simp; have := hmn1.out; omega
        obtain ⟨x1, f1⟩ : ∃ b, (kd == 1) = b := ⟨_, rfl⟩
        obtain ⟨x2, f2⟩ : ∃ b, ((k : Int) == 0) = b := ⟨_, rfl⟩
        obtain ⟨x3, f3⟩ : ∃ b, (kd == 16) = b := ⟨_, rfl⟩
        obtain ⟨x4, f4⟩ : ∃ b, ((k : Int) == (m : Int)) = b := ⟨_, rfl⟩
        rw [← e1, ← e2, ← e3, ← e4, f1, f2, f3, f4] at HCK1
        by_cases hg : x1 ≠ x2 ∨ x3 ≠ x4
        · have hc3 : c = 3 := by have := HCK1.out; rw [if_pos hg] at this; exact this.symm
          subst hc3
          clear HCK HCK1 e1 e2 e3 e4
          cases x1 <;> cases x2 <;> cases x3 <;> cases x4 <;> first
            | (exfalso; revert hg; decide)
            | (clear hg; go_wp2_with fail; go_ret; exact ⟨rfl, hbb⟩)
        rw [if_neg hg] at HCK1
        obtain rfl : x1 = x2 := by apply Classical.byContradiction; intro h; exact hg (.inl h)
        obtain rfl : x3 = x4 := by apply Classical.byContradiction; intro h; exact hg (.inr h)
        clear hg
        obtain ⟨oq, HOQ⟩ : ∃ oq, Hid (opn ⟨kd, qid, qa, qb, qc, qd, qw, qh, qp⟩ = oq) := ⟨_, (rfl : _ = _)⟩
        have hoq : -1 ≤ oq ∧ oq ≤ 1 := by
          rw [← HOQ.out]
          rcases opn_cases ⟨kd, qid, qa, qb, qc, qd, qw, qh, qp⟩ with ⟨_, h2⟩ | ⟨_, h2⟩ | ⟨_, _, h2⟩ <;> rw [h2] <;> omega
        obtain ⟨ho1, ho2⟩ := hoq
        obtain ⟨hd1l, hd1h⟩ := hd1
        obtain ⟨hdl, hdh⟩ := hd
        have HD1 : Hid (d1 = d + oq) := by rw [← HOQ.out]; exact HDS.out
        have HCK2 : Hid ((if d + oq < 0 then 3 else if 3 < d + oq then 2 else bkR n (k + 1) (d + oq) (qs.drop (k + 1))) = c) := by rw [← HOQ.out]; exact HCK1.out
        clear HCK HCK1 e1 e2 e3 e4 HDS
        cases x1 <;> cases x3
        all_goals
          go_wp2_with fail
          have hop := opens_any ⟨kd, qid, qa, qb, qc, qd, qw, qh, qp⟩ (.slice ua mu uc) w2
          rw [HOQ.out] at hop
          simp only [opV] at hop
          refine hop.mono ?_
          clear hop
          rintro e w3 ⟨rfl, hb3⟩
          have hbb3 := hbb.trans (hb3.mono hbb.size)
          clear hb3 m0 m1 m2 m3 m4 m5 m6 m7 m8 mf0 mf1 mf2 mf3 mf4 mf5 mf6 mf7 mf8 mlt f1 f2 f3 f4
          by_cases hlo : d + oq < 0
          · have hc3 : c = 3 := by have := HCK2.out; rw [if_pos hlo] at this; exact this.symm
            subst hc3
            clear HCK2
            go_wp2_with fail
            go_ret
            exact ⟨rfl, hbb3⟩
          rw [if_neg hlo] at HCK2
          by_cases hhi : 3 < d + oq
          · have hc3 : c = 2 := by have := HCK2.out; rw [if_pos hhi] at this; exact this.symm
            subst hc3
            clear HCK2
            go_wp2_with fail
            go_ret
            exact ⟨rfl, hbb3⟩
          rw [if_neg hhi] at HCK2
          go_wp2_with fail
          go_roundw
          case rel => exact ⟨k + 1, by omega, by go_num, by rw [HDK1.out, HD1.out], by rw [HDK1.out, HD1.out]; exact HCK2, hbb3⟩
          case measure => simp [intOf]; omega
    · obtain rfl : k = n := by omega
      rw [List.drop_of_length_le (by rw [HN.out]; exact Nat.le_refl _)] at HCK
      have HCK1 := HCK
      unfold bkR at HCK1
      obtain ⟨d, HDK⟩ : ∃ d, Hid (dep qs k = d) := ⟨_, (rfl : _ = _)⟩
      rw [HDK.out] at HCK1 ⊢
      by_cases hd0 : 0 < d
      · have hc3 : c = 3 := by have := HCK1.out; rw [if_pos hd0] at this; exact this.symm
        subst hc3
        clear HCK HCK1
        go_wp2_with fail
        go_ret
        exact ⟨rfl, hbr⟩
      · have hc3 : c = 0 := by have := HCK1.out; rw [if_neg hd0] at this; exact this.symm
        subst hc3
        clear HCK HCK1
        go_wp2_with fail
        go_ret
        exact ⟨rfl, hbr⟩
end Go.Proofs.YtceabiodelfdoaaGreatDoor
/- Walk: book.Close. -/
namespace Go.Proofs.YtceabiodelfdoaaGreatDoor
open Go.RowKit Go.Maps

theorem law_int : Keyed Tryz.prog 3 := int_keyed Tryz.underlying3
theorem wf_nat {a : Nat} (h : a ≤ 1000000) : (Lit.int .i64 (a : Int)).wf = true := WalkArith.wf_i64 (by omega)

theorem map_apart {w : World} {B : Nat} {e : TypeId} {s n : Nat} {v : Value} {xs : List Value} {kt : TypeId} {R : Value → Option (DataW Unit × List MemPlace)} {b k : Nat} {D : DataW Unit} (h : w.ownsRow B e s v n xs) (hm : w.ownsMap Tryz.prog kt R b k D) : some b ≠ v.ownBlock := by
  intro he
  obtain ⟨es, clock, hb, _⟩ := hm
  rcases h.2 with ⟨rfl, _⟩ | ⟨g, cap, cur, rfl, _, hg, _⟩
  · simp [Value.ownBlock] at he
  · simp only [Value.ownBlock, Option.some.injEq] at he
    subst he
    rw [hb] at hg
    cases hg
def CloseP (qs : List Pq) (w : World) (e : Ending) (w' : World) : Prop :=
  ∃ bm, e = .returned (.map (some bm)) ∧ w.heap.size ≤ bm ∧ w'.ownsMap Tryz.prog 3 (plainElem Tryz.prog 3) bm qs.length (clD qs qs.length) ∧ Below w.heap.size w w'

set_option maxHeartbeats 8000000 in
set_option maxRecDepth 100000 in
theorem close_any (v : Value) (qs : List Pq) (w : World) (HR : Hid (RdQ w v qs)) (hnq : qs.length ≤ 1000) :
    Calls Tryz.prog 52 #[v] w fun e w' => CloseP qs w e w' := by
  obtain ⟨i0, hi, hz0, hz1, hz2⟩ := info_parts Tryz.infoInt
  obtain ⟨a, cap, hv, hl, hcap⟩ := HR.out.shape
  obtain ⟨n, HN⟩ : ∃ n, Hid (qs.length = n) := ⟨_, (rfl : _ = _)⟩
  rw [HN.out] at hv hl hnq
  subst hv
  have hmm := @run_makeMap Tryz.prog
  have hb0 : Below w.heap.size w (w.alloc (.map #[] 0)) := (Below.refl _ _).alloc (Nat.le_refl _) _
  have hm0 : Hid ((w.alloc (.map #[] 0)).ownsMap Tryz.prog 3 (plainElem Tryz.prog 3) w.heap.size 0 (clD qs 0)) := World.ownsMap_made _ _ _ _
  unfold CloseP
  rw [HN.out]
  go_enter Tryz.func52, Tryz.ntmps52
  go_wp2_with fail
  go_loopw [4, 11] (fun o i wr => ∃ (k : Nat) (oa : Option Addr) (m oc : Nat), k ≤ n ∧ i = .int .i64 k ∧ o = .slice oa m oc ∧ Hid ((stk qs k).length = m) ∧ Hid (wr.ownsRow w.heap.size 3 1 (.slice oa m oc) m (natV (stk qs k))) ∧ Hid (wr.ownsMap Tryz.prog 3 (plainElem Tryz.prog 3) w.heap.size k (clD qs k)) ∧ Below w.heap.size w wr ∧ w.heap.size + 1 ≤ wr.heap.size) (fun _ i _ => n - (intOf i).toNat)
  case atStart => exact ⟨0, none, 0, 0, by omega, rfl, rfl, rfl, World.ownsRow_nil _ _ _ _, hm0, hb0, by simp⟩
  case round =>
    obtain ⟨k, oa, m, oc, hk, rfl, rfl, HM, HO, HD, hbr, hsz⟩ := hrel
    by_cases hlt : k < n
    · have hlt' : k < qs.length := by rw [HN.out]; exact hlt
      have hmk : m ≤ k := by rw [← HM.out]; exact (stk_le qs k).1
      obtain ⟨q, HX⟩ : ∃ q, Hid (qs.getD k pq0 = q) := ⟨_, (rfl : _ = _)⟩
      obtain ⟨g, o, ua, mu, uc, rfl, hg, OC, HU, HMU⟩ := (HR.out.on hbr).at hlt HX
      have HS1 : Hid (q.kind = 12 → stk qs (k + 1) = stk qs k ++ [k] ∧ clD qs (k + 1) = clD qs k) := fun h => ⟨by rw [stk, HX.out, if_pos h], by rw [clD, HX.out, if_neg (by omega)]⟩
      have HS2 : Hid (q.kind = 13 → 0 < m → stk qs (k + 1) = (stk qs k).dropLast ∧ clD qs (k + 1) = (clD qs k).put (.int .i64 (((stk qs k).getD (m - 1) 0 : Nat) : Int)) (.lit (.int .i64 (k : Int)))) := fun h h0 => ⟨by rw [stk, HX.out, if_neg (by omega), if_pos ⟨h, by rw [HM.out]; exact h0⟩], by rw [clD, HX.out, if_pos ⟨h, by rw [HM.out]; exact h0⟩, HM.out]⟩
      have HS3 : Hid (q.kind ≠ 12 → ¬ (q.kind = 13 ∧ 0 < m) → stk qs (k + 1) = stk qs k ∧ clD qs (k + 1) = clD qs k) := fun h h0 => ⟨by rw [stk, HX.out, if_neg h, if_neg (by rw [HM.out]; exact h0)], by rw [clD, HX.out, if_neg (by rw [HM.out]; exact h0)]⟩
      obtain ⟨kd, qid, qa, qb, qc, qd, qw, qh, qp⟩ := q
      obtain ⟨c0, c1, c2, c3, c4, c5, c6, c7, c8⟩ := OC
      simp only at c0 c1 c2 c3 c4 c5 c6 c7 c8 HS1 HS2 HS3
      have hbx : Below wr.heap.size wr (wr.alloc (.cells #[.int .i64 kd, .int .i64 qid, .int .i64 qa, .int .i64 qb, .int .i64 qc, .int .i64 qd, .int .i64 qw, .int .i64 qh, .slice ua mu uc] 48)) := (Below.refl _ _).alloc (Nat.le_refl _) _
      have hbX := hbr.trans (hbx.mono hbr.size)
      have hki0 : (0 : Int) ≤ (k : Int) := by omega
      have hki1 : (k : Int) < (n : Int) := by omega
      have HDX : Hid (World.ownsMap (wr.alloc (.cells #[.int .i64 kd, .int .i64 qid, .int .i64 qa, .int .i64 qb, .int .i64 qc, .int .i64 qd, .int .i64 qw, .int .i64 qh, .slice ua mu uc] 48)) Tryz.prog 3 (plainElem Tryz.prog 3) w.heap.size k (clD qs k)) := HD.out.alloc _
      have HOX := hid_of2 (own_on2 HO.out hbx)
      have hszX : w.heap.size + 1 ≤ (wr.alloc (.cells #[.int .i64 kd, .int .i64 qid, .int .i64 qa, .int .i64 qb, .int .i64 qc, .int .i64 qd, .int .i64 qw, .int .i64 qh, .slice ua mu uc] 48)).heap.size := by simp; omega
      clear HU HX hlt' hbx
      by_cases k12 : kd = 12
      · have b12 : (kd == 12) = true := by simpa using k12
        have hs1 := hid_of2 (HS1.out k12)
        clear HS1 HS2 HS3 k12
        go_wp2_with (at_builtin; refine wpList_append_own _ rfl _ _ 96 rfl w.heap.size 3 i0 (.int .i64 0) 1 8 Tryz.underlying96 hi hz0 hz1 hz2 rfl (by decide) _ _ _ rfl (own_on2 HOX.out ((Below.refl _ _).alloc (Nat.le_refl _) _)) ⟨wr.heap.size + 1, 0, none⟩ 1 1 [.int .i64 (k : Int)] rfl rfl ?c1 ?c2 ?c3 ?c4 ?c5 ?_)
        case c2 => rfl
        case c3 => unfold maxLen; omega
        case c4 => omega
        case c5 => omega
        intro v' w1 ho1 hg1 _
        obtain ⟨a', c', hv'⟩ := own_any ho1
        subst hv'
        have hs1 := hs1.out
        have HM1 : Hid ((stk qs (k + 1)).length = m + 1) := by unfold Hid; rw [hs1.1, List.length_append, HM.out]; rfl
        have HO1 : Hid (w1.ownsRow w.heap.size 3 1 (.slice a' (m + 1) c') (m + 1) (natV (stk qs (k + 1)))) := by unfold Hid; rw [hs1.1, natV_snoc]; exact ho1
        have HD1 : Hid (w1.ownsMap Tryz.prog 3 (plainElem Tryz.prog 3) w.heap.size (k + 1) (clD qs (k + 1))) := by
          unfold Hid; rw [hs1.2]
          exact ((HDX.out.alloc _).kept hg1 (map_apart HOX.out HDX.out)).mono (by omega)
        have hb1 : Below w.heap.size w w1 := (hbX.alloc hbX.size _).grown hg1 (by simp; omega) (fun z hz => (HOX.out.lt z hz).1)
        have hsz1 : w.heap.size + 1 ≤ w1.heap.size := by have := hg1.size; simp at this; omega
        clear ho1 hg1 hs1
        go_wp2_with fail
        go_roundw
        case rel => exact ⟨k + 1, _, _, _, by omega, by go_num, rfl, HM1, HO1, HD1, hb1, hsz1⟩
        case measure => simp [intOf]; omega
      · have b12 : (kd == 12) = false := by simpa using k12
        by_cases k13 : kd = 13
        · have b13 : (kd == 13) = true := by simpa using k13
          by_cases hm0 : 0 < m
          · have hs2 := HS2.out k13 hm0
            have hmi : (0 : Int) < (m : Int) := by omega
            obtain ⟨j, hj⟩ : ∃ j, m = j + 1 := ⟨m - 1, by omega⟩
            subst hj
            have hji : (0 : Int) ≤ (j : Int) := by omega
            have hji2 : (j : Int) < ((j + 1 : Nat) : Int) := by omega
            have hjl : j < (stk qs k).length := by rw [HM.out]; omega
            obtain ⟨p, HP⟩ : ∃ p, Hid ((stk qs k).getD j 0 = p) := ⟨_, (rfl : _ = _)⟩
            rw [show j + 1 - 1 = j by omega, HP.out] at hs2
            have hpk : p < k := by
              rw [← HP.out, List.getD_eq_getElem?_getD, List.getElem?_eq_getElem hjl]
              exact (stk_le qs k).2 _ (List.getElem_mem hjl)
            obtain ⟨gs, os, hoa⟩ : ∃ gs os, oa = some ⟨gs, os, none⟩ := by
              rcases HOX.out.2 with ⟨h, _⟩ | ⟨g, cap, cur, hv, _⟩
              · simp at h
              · simp only [Value.slice.injEq] at hv; exact ⟨g, 0, hv.1⟩
            obtain ⟨gs', rfl⟩ : ∃ gs, oa = some ⟨gs, 0, none⟩ := by
              rcases HOX.out.2 with ⟨h, _⟩ | ⟨g, cap, cur, hv, _⟩
              · simp at h
              · simp only [Value.slice.injEq] at hv; exact ⟨g, hv.1⟩
            clear hoa
            have hcell : (wr.alloc (.cells #[.int .i64 kd, .int .i64 qid, .int .i64 qa, .int .i64 qb, .int .i64 qc, .int .i64 qd, .int .i64 qw, .int .i64 qh, .slice ua mu uc] 48)).cell? ⟨gs', j, none⟩ = some (.int .i64 (p : Int)) := by
              rw [HOX.out.cellAt j (by omega), natV_at _ hjl, HP.out]
            have HM1 : Hid ((stk qs (k + 1)).length = j) := by unfold Hid; rw [hs2.1, List.length_dropLast, HM.out]; rfl
            have HOC : Hid ((wr.alloc (.cells #[.int .i64 kd, .int .i64 qid, .int .i64 qa, .int .i64 qb, .int .i64 qc, .int .i64 qd, .int .i64 qw, .int .i64 qh, .slice ua mu uc] 48)).ownsRow w.heap.size 3 1 (.slice (some ⟨gs', 0, none⟩) j oc) j (natV (stk qs (k + 1)))) := by
              unfold Hid
              rw [hs2.1, natV_drop, HM.out]
              have := own_cut HOX.out (m := j) (by omega) (by omega)
              simpa using this
            have hoc := own_cap HOX.out
            have hoc1 : (j : Int) ≤ (oc : Int) := by omega
            have HS2H := hid_of2 hs2
            clear HS1 HS2 HS3 k12 k13 hs2
            go_wp2_with (at_mapUpdate; refine wpList_mapUpdate_own _ rfl _ _ _ 83 rfl 3 3 law_int Tryz.underlying83 _ w.heap.size k _ rfl HDX.out (by unfold maxLen; omega) _ _ _ rfl rfl (keyOf_int_mk Tryz.underlying3 (wf_nat (a := p) (by omega))) _ [] (plainElem_int Tryz.underlying3 (wf_nat (a := k) (by omega))) ?_)
            intro w1 hm1 hg1
            have HO1 : Hid (w1.ownsRow w.heap.size 3 1 (.slice (some ⟨gs', 0, none⟩) j oc) j (natV (stk qs (k + 1)))) := HOC.out.kept hg1 (.inr (fun e => map_apart HOC.out HDX.out e.symm))
            have HD1 : Hid (w1.ownsMap Tryz.prog 3 (plainElem Tryz.prog 3) w.heap.size (k + 1) (clD qs (k + 1))) := by unfold Hid; rw [HS2H.out.2]; exact hm1
            have hb1 : Below w.heap.size w w1 := hbX.grown hg1 hbX.size (fun z hz => by cases hz; exact Nat.le_refl _)
            have hsz1 : w.heap.size + 1 ≤ w1.heap.size := by have := hg1.size; omega
            clear hm1 hg1 HS2H HOC HOX HDX hcell
            go_wp2_with fail
            go_roundw
            case rel => exact ⟨k + 1, _, _, _, by omega, by go_num, rfl, HM1, HO1, HD1, hb1, hsz1⟩
            case measure => simp [intOf]; omega
          · have hs3 := hid_of2 (HS3.out k12 (fun h => hm0 h.2))
            have hm00 : ¬ (0 : Int) < (m : Int) := by omega
            have HM1 : Hid ((stk qs (k + 1)).length = m) := by unfold Hid; rw [hs3.out.1]; exact HM.out
            have HO1 : Hid ((wr.alloc (.cells #[.int .i64 kd, .int .i64 qid, .int .i64 qa, .int .i64 qb, .int .i64 qc, .int .i64 qd, .int .i64 qw, .int .i64 qh, .slice ua mu uc] 48)).ownsRow w.heap.size 3 1 (.slice oa m oc) m (natV (stk qs (k + 1)))) := by unfold Hid; rw [hs3.out.1]; exact HOX.out
            have HD1 : Hid ((wr.alloc (.cells #[.int .i64 kd, .int .i64 qid, .int .i64 qa, .int .i64 qb, .int .i64 qc, .int .i64 qd, .int .i64 qw, .int .i64 qh, .slice ua mu uc] 48)).ownsMap Tryz.prog 3 (plainElem Tryz.prog 3) w.heap.size (k + 1) (clD qs (k + 1))) := by unfold Hid; rw [hs3.out.2]; exact HDX.out.mono (by omega)
            clear HS1 HS2 HS3 k12 k13 hs3 HOX HDX hm0
            go_wp2_with fail
            go_roundw
            case rel => exact ⟨k + 1, _, _, _, by omega, by go_num, rfl, HM1, HO1, HD1, hbX, hszX⟩
            case measure => simp [intOf]; omega
        · have b13 : (kd == 13) = false := by simpa using k13
          have hs3 := hid_of2 (HS3.out k12 (fun h => k13 h.1))
          have HM1 : Hid ((stk qs (k + 1)).length = m) := by unfold Hid; rw [hs3.out.1]; exact HM.out
          have HO1 : Hid ((wr.alloc (.cells #[.int .i64 kd, .int .i64 qid, .int .i64 qa, .int .i64 qb, .int .i64 qc, .int .i64 qd, .int .i64 qw, .int .i64 qh, .slice ua mu uc] 48)).ownsRow w.heap.size 3 1 (.slice oa m oc) m (natV (stk qs (k + 1)))) := by unfold Hid; rw [hs3.out.1]; exact HOX.out
          have HD1 : Hid ((wr.alloc (.cells #[.int .i64 kd, .int .i64 qid, .int .i64 qa, .int .i64 qb, .int .i64 qc, .int .i64 qd, .int .i64 qw, .int .i64 qh, .slice ua mu uc] 48)).ownsMap Tryz.prog 3 (plainElem Tryz.prog 3) w.heap.size (k + 1) (clD qs (k + 1))) := by unfold Hid; rw [hs3.out.2]; exact HDX.out.mono (by omega)
          clear HS1 HS2 HS3 k12 k13 hs3 HOX HDX
          go_wp2_with fail
          go_roundw
          case rel => exact ⟨k + 1, _, _, _, by omega, by go_num, rfl, HM1, HO1, HD1, hbX, hszX⟩
          case measure => simp [intOf]; omega
    · obtain rfl : k = n := by omega
      go_wp2_with fail
      go_ret
      exact ⟨_, rfl, Nat.le_refl _, HD.out, hbr⟩
end Go.Proofs.YtceabiodelfdoaaGreatDoor
/- Walk: machine.New. -/
namespace Go.Proofs.YtceabiodelfdoaaGreatDoor
open Go.RowKit Go.Maps

/-- what New answers -/
def NewP (qs : List Pq) (w : World) (e : Ending) (w' : World) : Prop :=
  Below w.heap.size w w' ∧ ((bkC qs ≠ 0 ∧ e = .returned (.tuple #[.pointer none, errV (bkC qs)])) ∨ (bkC qs = 0 ∧ ∃ b F, e = .returned (.tuple #[.pointer (some ⟨b, 0, none⟩), .nilIface]) ∧ Mac w' w.heap.size b F qs ms0 ∧ ∀ g ∈ F, g < w'.heap.size))

theorem own_box {w : World} {T : TypeId} {B : Nat} (cs : List Value) (s : Nat) (hB : B ≤ w.heap.size) (hl : cs.length = s) : (w.alloc (.cells cs.toArray T)).ownsRow B T s (.slice (some ⟨w.heap.size, 0, none⟩) 1 1) 1 cs :=
  ⟨by omega, .inr ⟨w.heap.size, 1, cs.toArray, rfl, hB, heap_alloc_new w _, by omega, by unfold maxLen; omega, by simp [hl], by rw [← hl]; simp⟩⟩

set_option maxHeartbeats 8000000 in
set_option maxRecDepth 100000 in
theorem mnew_any (v : Value) (qs : List Pq) (w : World) (HS : Hid (Shapes w)) (h1 : 0 < w.heap.size) (HR : Hid (RdQ w v qs)) (hps : ∀ j, j < qs.length → (qs.getD j pq0).ps.length ≤ 100) (hn : qs.length ≤ 1000) :
    Calls Tryz.prog 32 #[v] w fun e w' => NewP qs w e w' := by
  obtain ⟨a, cap, hv, _, _⟩ := HR.out.shape
  obtain ⟨n, HN⟩ : ∃ n, Hid (qs.length = n) := ⟨_, (rfl : _ = _)⟩
  rw [HN.out] at hv
  subst hv
  obtain ⟨c, HC⟩ : ∃ c, Hid (bkC qs = c) := ⟨_, (rfl : _ = _)⟩
  have HPS : Hid (∀ j, j < qs.length → (qs.getD j pq0).ps.length ≤ 100) := hps
  clear hps
  go_enter Tryz.func32, Tryz.ntmps32
  go_wp2_with fail
  refine (bookCheck_any _ qs _ HS h1 HR (fun j hj => by have := HPS.out j hj; omega) hn c HC).mono ?_
  rintro e w1 ⟨rfl, hb1⟩
  cases c with
  | succ c =>
    rw [show errV (c + 1) = .iface 62 (.int .i64 ((c + 1 : Nat) : Int)) from rfl]
    go_wp2_with fail
    go_ret2
    exact ⟨hb1, .inl ⟨by rw [HC.out]; omega, by rw [HC.out]; rfl⟩⟩
  | zero =>
    have HBK : Hid (Book qs) := book_of HC.out
    have hfew := HBK.out.few
    have HR1 : Hid (RdQ w1 (.slice a n cap) qs) := HR.out.on hb1
    rw [show errV 0 = Value.nilIface from rfl]
    go_wp2_with fail
    refine (mown_any _ qs _ (by omega) HPS.out HR1).mono ?_
    rintro e w2 ⟨v2, qv, rfl, ho2, hq2, hb2⟩
    have hbb2 := hb1.trans (hb2.mono hb1.size)
    have HR2 : Hid (RdQ w2 (.slice a n cap) qs) := HR.out.on hbb2
    obtain ⟨a2, c2, hv2⟩ := own_any ho2.1
    subst hv2
    have HO2 : Hid (OwnQ w2 w.heap.size (.slice a2 qv.length c2) qv) := ⟨own_mono ho2.1 hb1.size, fun q hq => own_mono (ho2.2 q hq) hb1.size⟩
    have HQ2 := hid_of2 hq2
    clear ho2 hb2 hq2 HR1
    go_wp2_with fail
    refine (close_any _ qs _ HR2 hn).mono ?_
    rintro e w3 ⟨bm, rfl, hbm, hmp, hb3⟩
    have hbb3 := hbb2.trans (hb3.mono hbb2.size)
    have HO3 : Hid (OwnQ w3 w.heap.size (.slice a2 qv.length c2) qv) := HO2.out.on hb3
    have HMP := hid_of2 hmp
    have hbm2 : w.heap.size ≤ bm := Nat.le_trans hbb2.size hbm
    clear hmp hb3 HR2 HO2 hbm
    go_wp2_with fail
    go_ret2
    have hbx : Below w3.heap.size w3 (w3.alloc (.cells #[.slice a2 qv.length c2, .map (some bm), .int .i64 0, .slice none 0 0, .int .i64 0, .int .i64 0, .slice none 0 0, .slice none 0 0, .slice none 0 0] 87)) := (Below.refl _ _).alloc (Nat.le_refl _) _
    refine ⟨hbb3.trans (hbx.mono hbb3.size), .inr ⟨HC.out, w3.heap.size, [w3.heap.size], rfl, ⟨.slice a2 qv.length c2, bm, .slice none 0 0, .slice none 0 0, .slice none 0 0, .slice none 0 0, own_box _ 9 hbb3.size rfl, ⟨⟨qv, HO3.out.on hbx, HQ2.out⟩, hbm2, ⟨clD qs qs.length, (map_only HMP.out (Only.below hbx [])).mono (by omega), fun p j hc => clD_at HBK.out _ (Nat.le_refl _) p j hc hc.on _⟩, World.ownsRow_nil _ _ _ _, ⟨[], ⟨World.ownsRow_nil _ _ _ _, by simp⟩, rfl⟩, ⟨[], ⟨World.ownsRow_nil _ _ _ _, by simp⟩, rfl⟩, ⟨[], ⟨World.ownsRow_nil _ _ _ _, by simp⟩, rfl⟩⟩, by simp, by simp [Value.ownBlock], by simp [Value.ownBlock], by simp; exact hbb3.size⟩, by simp⟩⟩
end Go.Proofs.YtceabiodelfdoaaGreatDoor
/- What a machine plays: more fuel; stretches of ops that open and close no loop. -/
namespace Go.Proofs.YtceabiodelfdoaaGreatDoor
open Go.RowKit

theorem play_more (qs : List Pq) : ∀ (f k : Nat) (s : Ms), playM qs f s ≠ .inr 8 → playM qs (f + k) s = playM qs f s := by
  intro f
  induction f with
  | zero =>
    intro k s h
    unfold playM at h
    by_cases hd : doneM qs s
    · cases k with
      | zero => rfl
      | succ k => rw [show 0 + (k + 1) = k + 1 by omega]; unfold playM; rw [if_pos hd, if_pos hd]
    · rw [if_neg hd] at h; exact absurd rfl h
  | succ f ih =>
    intro k s h
    rw [show f + 1 + k = (f + k) + 1 by omega]
    unfold playM at h ⊢
    by_cases hd : doneM qs s
    · rw [if_pos hd, if_pos hd]
    · rw [if_neg hd] at h
      rw [if_neg hd, if_neg hd]
      cases hs : stepM qs s with
      | inl s' => rw [hs] at h; exact ih k s' h
      | inr c => rfl

/-- what ops change of a machine, besides its place and its loops -/
structure Dt where
  bv : Int
  ba : Int
  obs : List Po
  kept : List Po
  frs : List Pf
def dt0 : Dt := ⟨0, 0, [], [], []⟩
def mkM (pc : Nat) (o : List (Nat × Nat)) (d : Dt) : Ms := ⟨pc, o, d.bv, d.ba, d.obs, d.kept, d.frs⟩
theorem ms0_mk : ms0 = mkM 0 [] dt0 := rfl
/-- the frame that a wait tells, H the head -/
def tellD (H : Pq) (d : Dt) (t : Int) : Pf := ⟨H.a, H.b, seenL H.a.toNat H.b.toNat (d.bv, d.ba) d.obs, t⟩
def actD (H : Pq) (d : Dt) (q : Pq) : Dt ⊕ Nat :=
  if q.kind = 1 then .inl d
  else if q.kind = 10 then .inl { d with bv := q.a, ba := q.b }
  else if q.kind = 11 then if 40 ≤ d.frs.length then .inr 7 else .inl { d with frs := d.frs ++ [tellD H d q.a] }
  else if q.kind = 14 then .inl { d with kept := d.obs }
  else if q.kind = 15 then .inl { d with obs := d.kept }
  else match doO d.obs q with
    | .inl rs => .inl { d with obs := rs }
    | .inr c => .inr c
def runD (H : Pq) : List Pq → Dt → Dt ⊕ Nat
  | [], d => .inl d
  | q :: r, d => match actD H d q with
    | .inl d' => runD H r d'
    | .inr c => .inr c
theorem runD_app (H : Pq) : ∀ (a b : List Pq) (d : Dt), runD H (a ++ b) d = match runD H a d with | .inl d' => runD H b d' | .inr c => .inr c := by
  intro a
  induction a with
  | nil => intro b d; rfl
  | cons q a ih =>
    intro b d
    simp only [List.cons_append, runD]
    cases actD H d q with
    | inl d' => exact ih b d'
    | inr c => rfl
/-- an op that opens and closes no loop, and isn't the last -/
structure PlainQ (q : Pq) : Prop where
  n12 : q.kind ≠ 12
  n13 : q.kind ≠ 13
  n16 : q.kind ≠ 16
theorem doM_plain (qs : List Pq) (pc : Nat) (o : List (Nat × Nat)) (d : Dt) (q : Pq) (h : PlainQ q) :
    doM qs (mkM pc o d) q = match actD (qs.getD 0 pq0) d q with | .inl d' => .inl (mkM pc o d') | .inr c => .inr c := by
  have h1 := h.n12
  have h2 := h.n13
  unfold doM actD
  split
  · rfl
  split
  · rfl
  split
  · by_cases h40 : 40 ≤ d.frs.length
    · rw [if_pos h40, if_pos (show 40 ≤ (mkM pc o d).frs.length from h40)]
    · rw [if_neg h40, if_neg (show ¬ 40 ≤ (mkM pc o d).frs.length from h40)]; rfl
  try rw [if_neg h1, if_neg h2]
  split
  · rfl
  split
  · rfl
  rw [show (mkM pc o d).obs = d.obs from rfl]
  cases doO d.obs q <;> rfl
theorem drop_cons {qs : List Pq} {pc : Nat} {q : Pq} {r : List Pq} (h : qs.drop pc = q :: r) : qs.getD pc pq0 = q ∧ qs.drop (pc + 1) = r ∧ pc < qs.length := by
  have hl : pc < qs.length := by
    have := congrArg List.length h
    simp at this
    omega
  have := List.getElem_cons_drop (i := pc) hl
  rw [h] at this
  exact ⟨by rw [getD_pq hl]; exact (List.cons.inj this).1, (List.cons.inj this).2, hl⟩
theorem step_plain (qs : List Pq) (pc : Nat) (o : List (Nat × Nat)) (d : Dt) (q : Pq) (hq : qs.getD pc pq0 = q) (h : PlainQ q) :
    stepM qs (mkM pc o d) = match actD (qs.getD 0 pq0) d q with | .inl d' => .inl (mkM (pc + 1) o d') | .inr c => .inr c := by
  unfold stepM
  rw [if_neg (show ¬ doneM qs (mkM pc o d) from fun h' => h.n16 (by unfold doneM at h'; rw [← hq]; exact h'))]
  rw [show (mkM pc o d).pc = pc from rfl, hq, doM_plain qs pc o d q h]
  cases actD (qs.getD 0 pq0) d q <;> rfl
/-- a stretch of plain ops is played -/
theorem play_run (qs : List Pq) (o : List (Nat × Nat)) (f : Nat) : ∀ (r rest : List Pq) (pc : Nat) (d : Dt), qs.drop pc = r ++ rest → (∀ q ∈ r, PlainQ q) →
    playM qs (r.length + f) (mkM pc o d) = match runD (qs.getD 0 pq0) r d with | .inl d' => playM qs f (mkM (pc + r.length) o d') | .inr c => .inr c := by
  intro r
  induction r with
  | nil => intro rest pc d _ _; simp [runD]
  | cons q r ih =>
    intro rest pc d hd hp
    obtain ⟨h1, h2, h3⟩ := drop_cons (by simpa using hd)
    have hq := hp q (by simp)
    rw [show (q :: r).length + f = (r.length + f) + 1 by simp; omega]
    rw [playM, if_neg (show ¬ doneM qs (mkM pc o d) from fun h' => hq.n16 (by unfold doneM at h'; rw [← h1]; exact h')), step_plain qs pc o d q h1 hq]
    simp only [runD]
    cases actD (qs.getD 0 pq0) d q with
    | inr c => rfl
    | inl d' =>
      have := ih rest (pc + 1) d' h2 (fun z hz => hp z (by simp [hz]))
      rw [show pc + (q :: r).length = pc + 1 + r.length by simp; omega]
      exact this
theorem play_done (qs : List Pq) (f : Nat) (s : Ms) (h : doneM qs s) : playM qs f s = .inl s.frs := by
  cases f <;> (unfold playM; rw [if_pos h])
/-- a book without loops is played -/
theorem play_straight (qs r : List Pq) (E : Pq) (hq : qs = r ++ [E]) (hE : E.kind = 16) (hp : ∀ q ∈ r, PlainQ q) (f : Nat) (hf : r.length ≤ f) :
    playM qs f ms0 = match runD (qs.getD 0 pq0) r dt0 with | .inl d => .inl d.frs | .inr c => .inr c := by
  have := play_run qs [] (f - r.length) r [E] 0 dt0 (by simpa using hq) hp
  rw [show r.length + (f - r.length) = f by omega, ← ms0_mk] at this
  rw [this]
  cases runD (qs.getD 0 pq0) r dt0 with
  | inr c => rfl
  | inl d =>
    simp only
    rw [play_done]
    · rfl
    · unfold doneM
      show (qs.getD (0 + r.length) pq0).kind = 16
      rw [hq, Nat.zero_add]
      simp [List.getD_eq_getElem?_getD, hE]
end Go.Proofs.YtceabiodelfdoaaGreatDoor
/- What a machine plays: loops. -/
namespace Go.Proofs.YtceabiodelfdoaaGreatDoor
open Go.RowKit

theorem play_step (qs : List Pq) (f : Nat) (s s' : Ms) (hd : ¬ doneM qs s) (h : stepM qs s = .inl s') : playM qs (f + 1) s = playM qs f s' := by
  rw [playM, if_neg hd, h]
theorem not_done {qs : List Pq} {pc : Nat} {o : List (Nat × Nat)} {d : Dt} {q : Pq} (hq : qs.getD pc pq0 = q) (h : q.kind ≠ 16) : ¬ doneM qs (mkM pc o d) :=
  fun h' => h (by unfold doneM at h'; rw [← hq]; exact h')
theorem step_loop0 (qs : List Pq) (pc : Nat) (o : List (Nat × Nat)) (d : Dt) (q : Pq) (hq : qs.getD pc pq0 = q) (hk : q.kind = 12) (ha : q.a = 0) :
    stepM qs (mkM pc o d) = .inl (mkM (cloF qs pc + 1) o d) := by
  unfold stepM
  rw [if_neg (not_done hq (by omega)), show (mkM pc o d).pc = pc from rfl, hq]
  unfold doM
  rw [if_neg (by omega), if_neg (by omega), if_neg (by omega), if_pos hk, if_pos ha]
  rfl
theorem step_loop (qs : List Pq) (pc : Nat) (o : List (Nat × Nat)) (d : Dt) (q : Pq) (hq : qs.getD pc pq0 = q) (hk : q.kind = 12) (ha : q.a ≠ 0) :
    stepM qs (mkM pc o d) = .inl (mkM (pc + 1) (o ++ [(pc, q.a.toNat)]) d) := by
  unfold stepM
  rw [if_neg (not_done hq (by omega)), show (mkM pc o d).pc = pc from rfl, hq]
  unfold doM
  rw [if_neg (by omega), if_neg (by omega), if_neg (by omega), if_pos hk, if_neg ha]
  rfl
theorem last_snoc (o : List (Nat × Nat)) (x : Nat × Nat) : (o ++ [x]).getD ((o ++ [x]).length - 1) (0, 0) = x := by
  simp [List.getD_eq_getElem?_getD]
theorem step_back (qs : List Pq) (pc p l : Nat) (o : List (Nat × Nat)) (d : Dt) (q : Pq) (hq : qs.getD pc pq0 = q) (hk : q.kind = 13) (hl : 1 < l) :
    stepM qs (mkM pc (o ++ [(p, l)]) d) = .inl (mkM (p + 1) (o ++ [(p, l - 1)]) d) := by
  unfold stepM
  rw [if_neg (not_done hq (by omega)), show (mkM pc (o ++ [(p, l)]) d).pc = pc from rfl, hq]
  unfold doM
  rw [if_neg (by omega), if_neg (by omega), if_neg (by omega), if_neg (by omega), if_pos hk]
  simp only [show (mkM pc (o ++ [(p, l)]) d).opn = o ++ [(p, l)] from rfl, last_snoc, if_pos hl]
  simp [mkM]
theorem step_out (qs : List Pq) (pc p l : Nat) (o : List (Nat × Nat)) (d : Dt) (q : Pq) (hq : qs.getD pc pq0 = q) (hk : q.kind = 13) (hl : l ≤ 1) :
    stepM qs (mkM pc (o ++ [(p, l)]) d) = .inl (mkM (pc + 1) o d) := by
  unfold stepM
  rw [if_neg (not_done hq (by omega)), show (mkM pc (o ++ [(p, l)]) d).pc = pc from rfl, hq]
  unfold doM
  rw [if_neg (by omega), if_neg (by omega), if_neg (by omega), if_neg (by omega), if_pos hk]
  simp only [show (mkM pc (o ++ [(p, l)]) d).opn = o ++ [(p, l)] from rfl, last_snoc, if_neg (show ¬ 1 < l by omega)]
  simp [mkM]
/-- from pc on the ops lead, in n steps, to pc + m, and make of the data what B says -/
def Leads (qs : List Pq) (pc n m : Nat) (B : Dt → Dt ⊕ Nat) : Prop :=
  ∀ (f : Nat) (o : List (Nat × Nat)) (d : Dt), playM qs (n + f) (mkM pc o d) = match B d with | .inl d' => playM qs f (mkM (pc + m) o d') | .inr c => .inr c
def itB (B : Dt → Dt ⊕ Nat) : Nat → Dt → Dt ⊕ Nat
  | 0, d => .inl d
  | t + 1, d => match B d with
    | .inl d' => itB B t d'
    | .inr c => .inr c
theorem Leads.then {qs : List Pq} {pc n m n' m' : Nat} {B B' : Dt → Dt ⊕ Nat} (h : Leads qs pc n m B) (h' : Leads qs (pc + m) n' m' B') : Leads qs pc (n + n') (m + m') (fun d => match B d with | .inl d' => B' d' | .inr c => .inr c) := by
  intro f o d
  dsimp only
  rw [Nat.add_assoc, h]
  cases B d with
  | inr c => rfl
  | inl d' => rw [← Nat.add_assoc]; exact h' f o d'
theorem leads_run (qs r rest : List Pq) (pc : Nat) (hd : qs.drop pc = r ++ rest) (hp : ∀ q ∈ r, PlainQ q) : Leads qs pc r.length r.length (runD (qs.getD 0 pq0) r) :=
  fun f o d => play_run qs o f r rest pc d hd hp
/-- the rounds of a loop -/
theorem leads_rounds {qs : List Pq} {p n m : Nat} {B : Dt → Dt ⊕ Nat} (hB : Leads qs (p + 1) n m B) {N : Pq} (hN : qs.getD (p + 1 + m) pq0 = N) (hk : N.kind = 13) :
    ∀ (t : Nat) (f : Nat) (o : List (Nat × Nat)) (d : Dt), 1 ≤ t → playM qs (t * (n + 1) + f) (mkM (p + 1) (o ++ [(p, t)]) d) = match itB B t d with | .inl d' => playM qs f (mkM (p + 1 + m + 1) o d') | .inr c => .inr c := by
  intro t
  induction t with
  | zero => intro f o d h; omega
  | succ t ih =>
    intro f o d _
    rw [show (t + 1) * (n + 1) + f = n + (t * (n + 1) + f + 1) by rw [Nat.succ_mul]; omega, hB]
    simp only [itB]
    cases B d with
    | inr c => rfl
    | inl d' =>
      simp only
      rcases Nat.eq_zero_or_pos t with rfl | ht
      · rw [play_step qs _ _ _ (not_done hN (by omega)) (step_out qs _ p 1 o d' N hN hk (by omega))]
        simp [itB]
      · rw [play_step qs _ _ _ (not_done hN (by omega)) (step_back qs _ p (t + 1) o d' N hN hk (by omega))]
        exact ih f o d' ht
/-- a loop whole -/
theorem leads_loop {qs : List Pq} {p n m : Nat} {B : Dt → Dt ⊕ Nat} (hB : Leads qs (p + 1) n m B) {L N : Pq} (hL : qs.getD p pq0 = L) (hkL : L.kind = 12) (hN : qs.getD (p + 1 + m) pq0 = N) (hk : N.kind = 13) (t : Nat) (ht : L.a = (t : Int))
    (hC : Clo qs p (p + 1 + m)) : Leads qs p (t * (n + 1) + 1) (m + 2) (itB B t) := by
  intro f o d
  rw [show t * (n + 1) + 1 + f = t * (n + 1) + f + 1 by omega]
  rcases Nat.eq_zero_or_pos t with rfl | h
  · rw [play_step qs _ _ _ (not_done hL (by omega)) (step_loop0 qs p o d L hL hkL (by omega)), hC.fn]
    simp [itB, show p + (m + 2) = p + 1 + m + 1 by omega]
  · rw [play_step qs _ _ _ (not_done hL (by omega)) (step_loop qs p o d L hL hkL (by omega)), ht, Int.toNat_natCast, leads_rounds hB hN hk t f o d h]
    simp [show p + (m + 2) = p + 1 + m + 1 by omega]
/-- so often one behind the other -/
def repQ (r : List Pq) : Nat → List Pq
  | 0 => []
  | t + 1 => r ++ repQ r t
theorem itB_run (H : Pq) (r : List Pq) : ∀ (t : Nat) (d : Dt), itB (runD H r) t d = runD H (repQ r t) d := by
  intro t
  induction t with
  | zero => intro d; rfl
  | succ t ih =>
    intro d
    simp only [itB, repQ, runD_app]
    cases runD H r d with
    | inr c => rfl
    | inl d' => exact ih d'
theorem repQ_mem {r : List Pq} {q : Pq} : ∀ {t : Nat}, q ∈ repQ r t → q ∈ r := by
  intro t
  induction t with
  | zero => intro h; simp [repQ] at h
  | succ t ih =>
    intro h
    simp only [repQ, List.mem_append] at h
    rcases h with h | h
    · exact h
    · exact ih h
theorem repQ_snoc (r : List Pq) (t : Nat) : repQ r (t + 1) = repQ r t ++ r := by
  induction t with
  | zero => simp [repQ]
  | succ t ih => rw [repQ, ih, ← List.append_assoc, ← repQ, ih]
theorem repQ_len (r : List Pq) (t : Nat) : (repQ r t).length = t * r.length := by
  induction t with
  | zero => simp [repQ]
  | succ t ih => rw [repQ, List.length_append, ih, Nat.succ_mul]; omega
theorem leads_play {qs : List Pq} {n m : Nat} {B : Dt → Dt ⊕ Nat} (h : Leads qs 0 n m B) {E : Pq} (hE : qs.getD m pq0 = E) (hk : E.kind = 16) (f : Nat) (hf : n ≤ f) :
    playM qs f ms0 = match B dt0 with | .inl d => .inl d.frs | .inr c => .inr c := by
  have := h (f - n) [] dt0
  rw [show n + (f - n) = f by omega, ← ms0_mk] at this
  rw [this]
  cases B dt0 with
  | inr c => rfl
  | inl d =>
    simp only
    rw [play_done]
    · rfl
    · unfold doneM
      show (qs.getD (0 + m) pq0).kind = 16
      rw [Nat.zero_add, hE, hk]
theorem dep_plain (qs r rest : List Pq) (pc : Nat) (hd : qs.drop pc = r ++ rest) (hp : ∀ q ∈ r, PlainQ q) : ∀ k, k ≤ r.length → dep qs (pc + k) = dep qs pc := by
  intro k
  induction k with
  | zero => intro _; rfl
  | succ k ih =>
    intro hk
    have h1 := ih (by omega)
    have hlen := congrArg List.length hd
    simp at hlen
    have hl : pc + k < qs.length := by omega
    have e : qs.getD (pc + k) pq0 = r[k]'(by omega) := by
      rw [getD_pq hl]
      have : (qs.drop pc)[k]? = (r ++ rest)[k]? := by rw [hd]
      rw [List.getElem?_drop, List.getElem?_append_left (by omega), List.getElem?_eq_getElem hl, List.getElem?_eq_getElem (by omega)] at this
      exact Option.some.inj this
    rw [← Nat.add_assoc, dep_succ qs (pc + k) hl, h1, e]
    have hq := hp (r[k]'(by omega)) (List.getElem_mem _)
    rcases opn_cases (r[k]'(by omega)) with ⟨a, _⟩ | ⟨a, _⟩ | ⟨_, _, a⟩
    · exact absurd a hq.n12
    · exact absurd a hq.n13
    · omega
/-- a loop with no loop inside ends behind its body -/
theorem clo_plain (qs body rest : List Pq) (L N : Pq) (p : Nat) (hd : qs.drop p = L :: body ++ N :: rest) (hkL : L.kind = 12) (hk : N.kind = 13) (hp : ∀ q ∈ body, PlainQ q) : Clo qs p (p + 1 + body.length) := by
  obtain ⟨h1, h2, h3⟩ := drop_cons (by simpa using hd)
  have hN : qs.drop (p + 1 + body.length) = N :: rest := by
    rw [← List.drop_drop, h2]; simp
  obtain ⟨n1, _, n3⟩ := drop_cons hN
  have hd1 : dep qs (p + 1) = dep qs p + 1 := by rw [dep_succ qs p h3, h1]; unfold opn; rw [if_pos hkL]
  have hb := dep_plain qs body (N :: rest) (p + 1) h2 hp
  refine ⟨by omega, n3, by rw [h1]; exact hkL, by rw [n1]; exact hk, ?_, fun k k1 k2 => ?_⟩
  · rw [dep_succ qs _ n3, hb _ (Nat.le_refl _), n1, hd1]
    unfold opn
    rw [if_neg (by omega), if_pos hk]
    omega
  · have := hb (k - (p + 1)) (by omega)
    rw [show p + 1 + (k - (p + 1)) = k by omega] at this
    omega
/-- a loop is as if it were told so often -/
theorem loop_told (pre body tail : List Pq) (L N E : Pq) (t : Nat) (hkL : L.kind = 12) (hL : L.a = (t : Int)) (hkN : N.kind = 13) (hE : E.kind = 16) (hp : ∀ q ∈ pre, PlainQ q) (hb : ∀ q ∈ body, PlainQ q) (ht : ∀ q ∈ tail, PlainQ q) (hne : 0 < pre.length) (f : Nat)
    (h1 : pre.length + (t * (body.length + 1) + 1) + tail.length ≤ f) :
    playM (pre ++ L :: (body ++ N :: (tail ++ [E]))) f ms0 = playM (pre ++ (repQ body t ++ (tail ++ [E]))) f ms0 := by
  obtain ⟨qs, hqs⟩ : ∃ qs, pre ++ L :: (body ++ N :: (tail ++ [E])) = qs := ⟨_, rfl⟩
  obtain ⟨rs, hrs⟩ : ∃ rs, pre ++ (repQ body t ++ (tail ++ [E])) = rs := ⟨_, rfl⟩
  rw [hqs, hrs]
  have hH : qs.getD 0 pq0 = rs.getD 0 pq0 := by
    rw [← hqs, ← hrs]
    simp [List.getD_eq_getElem?_getD, List.getElem?_append_left hne]
  have dp : qs.drop pre.length = L :: (body ++ N :: (tail ++ [E])) := by rw [← hqs]; simp
  obtain ⟨e1, e2, _⟩ := drop_cons dp
  have e3 : qs.drop (pre.length + 1 + body.length) = N :: (tail ++ [E]) := by rw [← List.drop_drop, e2]; simp
  obtain ⟨e4, e5, _⟩ := drop_cons e3
  have e6 : qs.drop (pre.length + 1 + body.length + 1 + tail.length) = [E] := by rw [← List.drop_drop, e5]; simp
  obtain ⟨e7, _, _⟩ := drop_cons e6
  have l1 := leads_run qs pre (L :: (body ++ N :: (tail ++ [E]))) 0 (by rw [← hqs]; rfl) hp
  have l2 := leads_run qs body (N :: (tail ++ [E])) (pre.length + 1) e2 hb
  have l3 := leads_loop l2 e1 hkL e4 hkN t hL (clo_plain qs body (tail ++ [E]) L N pre.length (by rw [dp]; simp) hkL hkN hb)
  have l4 := leads_run qs tail [E] (0 + pre.length + (body.length + 2)) (by rw [show 0 + pre.length + (body.length + 2) = pre.length + 1 + body.length + 1 by omega]; exact e5) ht
  have l5 := (l1.then (by rw [Nat.zero_add]; exact l3)).then (by rw [← Nat.add_assoc]; exact l4)
  have p1 := leads_play l5 (E := E) (by rw [← e7]; congr 1; omega) hE f h1
  have hall : ∀ q ∈ pre ++ repQ body t ++ tail, PlainQ q := by
    intro q hq
    rcases List.mem_append.1 hq with hq | hq
    · rcases List.mem_append.1 hq with hq | hq
      · exact hp q hq
      · exact hb q (repQ_mem hq)
    · exact ht q hq
  have p2 := play_straight rs (pre ++ repQ body t ++ tail) E (by rw [← hrs]; simp) hE hall f (by
    simp only [List.length_append, repQ_len]
    have : t * body.length ≤ t * (body.length + 1) := Nat.mul_le_mul_left _ (by omega)
    omega)
  rw [p1, p2, hH, runD_app, runD_app]
  cases runD (rs.getD 0 pq0) pre dt0 with
  | inr c => rfl
  | inl d =>
    simp only
    rw [itB_run]
    first
      | done
      | (generalize runD (rs.getD 0 pq0) (repQ body t) d = r
         rcases r with d' | c
         · simp only
           cases runD (rs.getD 0 pq0) tail d' <;> rfl
         · rfl)
end Go.Proofs.YtceabiodelfdoaaGreatDoor
/- Walk: machine.Play. -/
namespace Go.Proofs.YtceabiodelfdoaaGreatDoor
open Go.RowKit Go.Maps

/-- what Play answers -/
def playR (qs : List Pq) (fuel : Int) : List Pf ⊕ Nat := if bkC qs ≠ 0 then .inr (bkC qs) else playM qs (min fuel 400).toNat ms0
/-- what lies in memory of it -/
def PlayP (B : Nat) (r : List Pf ⊕ Nat) (w : World) (e : Ending) (w' : World) : Prop :=
  Below w.heap.size w w' ∧ ((∃ v' fv, e = .returned (.tuple #[v', .nilIface]) ∧ OwnFr w' B v' fv ∧ r = .inl (fv.map Prod.fst)) ∨ (∃ c, c ≠ 0 ∧ r = .inr c ∧ e = .returned (.tuple #[.slice none 0 0, errV c])))
theorem errV_pos {c : Nat} (h : c ≠ 0) : errV c = .iface 62 (.int .i64 (c : Int)) := by unfold errV; rw [if_neg h]
theorem stepM_way {qs : List Pq} {s s' : Ms} (hb : Book qs) (hw : Way qs s) (h : stepM qs s = .inl s') : Way qs s' := by
  by_cases hd : doneM qs s
  · unfold stepM at h
    rw [if_pos hd] at h
    obtain rfl := Sum.inl.inj h
    exact hw
  · rw [stepM_not hd] at h
    cases hr : doM qs s (qs.getD s.pc pq0) with
    | inl t => rw [hr] at h; obtain rfl := Sum.inl.inj h; exact step_way hb hw hd hr
    | inr c => rw [hr] at h; cases h
theorem stepM_err {qs : List Pq} {s : Ms} {c : Nat} (h : stepM qs s = .inr c) : c ≠ 0 := by
  by_cases hd : doneM qs s
  · unfold stepM at h
    rw [if_pos hd] at h
    cases h
  · rw [stepM_not hd] at h
    cases hr : doM qs s (qs.getD s.pc pq0) with
    | inl t => rw [hr] at h; cases h
    | inr c' => rw [hr] at h; obtain rfl := Sum.inr.inj h; have := doM_err hr; omega

set_option maxHeartbeats 8000000 in
set_option maxRecDepth 100000 in
theorem mplay_any (v : Value) (qs : List Pq) (fuel : Int) (w : World) (HS : Hid (Shapes w)) (h1 : 0 < w.heap.size) (HR : Hid (RdQ w v qs)) (hps : ∀ j, j < qs.length → (qs.getD j pq0).ps.length ≤ 100) (hn : qs.length ≤ 1000) (hf1 : -9223372036854775808 ≤ fuel) :
    Calls Tryz.prog 15 #[v, .int .i64 fuel] w fun e w' => PlayP w.heap.size (playR qs fuel) w e w' := by
  obtain ⟨a, cap, hv, _, _⟩ := HR.out.shape
  obtain ⟨n, HN⟩ : ∃ n, Hid (qs.length = n) := ⟨_, (rfl : _ = _)⟩
  rw [HN.out] at hv
  subst hv
  have HPS : Hid (∀ j, j < qs.length → (qs.getD j pq0).ps.length ≤ 100) := hps
  clear hps
  go_enter Tryz.func15, Tryz.ntmps15
  go_wp2_with fail
  refine (mnew_any _ qs _ HS h1 HR HPS.out hn).mono ?_
  rintro e w1 ⟨hb1, hh⟩
  rcases hh with ⟨hc, rfl⟩ | ⟨hc, b, F, rfl, hM, _⟩
  · have HPR : Hid (playR qs fuel = .inr (bkC qs)) := by unfold Hid playR; rw [if_pos hc]
    have HC := hid_of2 hc
    clear hc
    rw [errV_pos HC.out]
    go_wp2_with fail
    go_ret2
    exact ⟨hb1, .inr ⟨bkC qs, HC.out, HPR.out, by rw [errV_pos HC.out]; rfl⟩⟩
  have HPR : Hid (playR qs fuel = playM qs (min fuel 400).toNat ms0) := by unfold Hid playR; rw [if_neg (by simpa using hc)]
  have HBK : Hid (Book qs) := book_of hc
  have HM := hid_of2 hM
  have HW0 : Hid (Way qs ms0) := way0 HBK.out
  clear hc hM
  have hlow := HM.out.low
  by_cases hle : fuel ≤ 400
  · rw [show min fuel 400 = fuel by omega] at HPR
    obtain ⟨N, HLN⟩ : ∃ N : Nat, Hid (fuel.toNat = N) := ⟨_, (rfl : _ = _)⟩
    rw [HLN.out] at HPR
    go_wp2_with fail
    go_loopw [8, 19] (fun _ i wr => ∃ (k : Nat) (st : Ms) (F' : List Nat), k ≤ N ∧ i = .int .i64 k ∧ Hid (Mac wr w.heap.size b F' qs st) ∧ Hid (Way qs st) ∧ Hid (playM qs (N - k) st = playR qs fuel) ∧ Below w.heap.size w wr) (fun _ i _ => N - (intOf i).toNat)
    case atStart => exact ⟨0, ms0, F, by omega, rfl, HM, HW0, by rw [HPR.out]; rfl, hb1⟩
    case round =>
      obtain ⟨k, st, F', hk, rfl, HMS, HWS, HP, hbr⟩ := hrel
      obtain ⟨t, HT⟩ : ∃ t, Hid (decide ((qs.getD st.pc pq0).kind = 16) = t) := ⟨_, (rfl : _ = _)⟩
      by_cases hlt : k < N
      · have hki : (k : Int) < fuel := by have := HLN.out; omega
        go_wp2_with fail
        refine (mdone_any _ b F' qs st _ HMS HWS.out.on t HT).mono ?_
        rintro e w2 ⟨rfl, hb2⟩
        have HM2 : Hid (Mac w2 w.heap.size b F' qs st) := HMS.out.on hb2
        have hbb2 := hbr.trans (hb2.mono hbr.size)
        cases t with
        | true =>
          have HPD : Hid (playR qs fuel = .inl st.frs) := by unfold Hid; rw [← HP.out]; exact play_done qs _ st (of_decide_eq_true HT.out)
          clear hb2
          go_wp2_with fail
          refine (mdone_any _ b F' qs st _ HM2 HWS.out.on true HT).mono ?_
          rintro e w3 ⟨rfl, hb3⟩
          have hbb3 := hbb2.trans (hb3.mono hbb2.size)
          obtain ⟨vo, bm, vr, vb, vk, vf, hm1, hm2, hm3⟩ := HM2.out.on hb3
          obtain ⟨NN, hB⟩ := mac_nine hm1
          have n8 := NN.c8
          obtain ⟨fv, hf1, hf2⟩ := hm2.frs
          obtain ⟨fa, fc, hvf⟩ := own_any hf1.1
          subst hvf
          have HF1 := hid_of2 hf1
          have HF2 := hid_of2 hf2
          clear hm1 hm2 hm3 NN hf1 hf2 hb3
          go_wp2_with fail
          go_ret2
          exact ⟨hbb3, .inl ⟨_, fv, rfl, HF1.out, by rw [HPD.out, HF2.out]⟩⟩
        | false =>
          clear hb2
          go_wp2_with fail
          refine (mstep_any _ b F' qs st _ HM2 HBK HWS).mono ?_
          rintro e w3 ⟨F2, rfl, hm3, hf3⟩
          have hbb3 : Below w.heap.size w w3 := hbb2.trans (hf3.belowB HM2.out.low hbb2.size)
          have hnd : ¬ doneM qs st := of_decide_eq_false HT.out
          have HND := hid_of2 hnd
          obtain ⟨r, HRR⟩ : ∃ r, Hid (stepM qs st = r) := ⟨_, (rfl : _ = _)⟩
          rw [HRR.out] at hm3 ⊢
          clear hnd hf3
          cases r with
          | inr c =>
            have HC0 := hid_of2 (stepM_err HRR.out)
            have HPD : Hid (playR qs fuel = .inr c) := by
              unfold Hid
              rw [← HP.out, show N - k = (N - k - 1) + 1 by omega, playM, if_neg HND.out, HRR.out]
            unfold numM
            rw [errV_pos HC0.out]
            go_wp2_with fail
            go_ret2
            exact ⟨hbb3, .inr ⟨c, HC0.out, HPD.out, by rw [errV_pos HC0.out]; rfl⟩⟩
          | inl s' =>
            have HP2 : Hid (playM qs (N - (k + 1)) s' = playR qs fuel) := by
              unfold Hid
              rw [← HP.out, show N - k = (N - (k + 1)) + 1 by omega, play_step qs _ st s' HND.out HRR.out]
            have HW2 : Hid (Way qs s') := stepM_way HBK.out HWS.out HRR.out
            have HM3 : Hid (Mac w3 w.heap.size b F2 qs s') := hm3
            clear hm3
            unfold numM
            rw [show errV 0 = Value.nilIface from rfl]
            go_wp2_with fail
            go_roundw
            case rel => exact ⟨k + 1, s', F2, by omega, by go_num, HM3, HW2, HP2, hbb3⟩
            case measure => simp [intOf]; omega
      · have hki : ¬ (k : Int) < fuel := by have := HLN.out; omega
        have hkN : N - k = 0 := by omega
        rw [hkN] at HP
        clear hkN
        go_wp2_with fail
        refine (mdone_any _ b F' qs st _ HMS HWS.out.on t HT).mono ?_
        rintro e w3 ⟨rfl, hb3⟩
        have hbb3 := hbr.trans (hb3.mono hbr.size)
        cases t with
        | true =>
          have HPD : Hid (playR qs fuel = .inl st.frs) := by unfold Hid; rw [← HP.out]; exact play_done qs _ st (of_decide_eq_true HT.out)
          obtain ⟨vo, bm, vr, vb, vk, vf, hm1, hm2, hm3⟩ := HMS.out.on hb3
          obtain ⟨NN, hB⟩ := mac_nine hm1
          have n8 := NN.c8
          obtain ⟨fv, hf1, hf2⟩ := hm2.frs
          obtain ⟨fa, fc, hvf⟩ := own_any hf1.1
          subst hvf
          have HF1 := hid_of2 hf1
          have HF2 := hid_of2 hf2
          clear hm1 hm2 hm3 NN hf1 hf2 hb3
          go_wp2_with fail
          go_ret2
          exact ⟨hbb3, .inl ⟨_, fv, rfl, HF1.out, by rw [HPD.out, HF2.out]⟩⟩
        | false =>
          have HPD : Hid (playR qs fuel = .inr 8) := by
            unfold Hid
            rw [← HP.out, playM, if_neg (show ¬ doneM qs st from of_decide_eq_false HT.out)]
          clear hb3
          go_wp2_with fail
          go_ret2
          exact ⟨hbb3, .inr ⟨8, by omega, HPD.out, rfl⟩⟩
  · rw [show min fuel 400 = 400 by omega] at HPR
    obtain ⟨N, HLN⟩ : ∃ N : Nat, Hid ((400 : Int).toNat = N) := ⟨_, (rfl : _ = _)⟩
    rw [HLN.out] at HPR
    go_wp2_with fail
    go_loopw [8, 19] (fun _ i wr => ∃ (k : Nat) (st : Ms) (F' : List Nat), k ≤ N ∧ i = .int .i64 k ∧ Hid (Mac wr w.heap.size b F' qs st) ∧ Hid (Way qs st) ∧ Hid (playM qs (N - k) st = playR qs fuel) ∧ Below w.heap.size w wr) (fun _ i _ => N - (intOf i).toNat)
    case atStart => exact ⟨0, ms0, F, by omega, rfl, HM, HW0, by rw [HPR.out]; rfl, hb1⟩
    case round =>
      obtain ⟨k, st, F', hk, rfl, HMS, HWS, HP, hbr⟩ := hrel
      obtain ⟨t, HT⟩ : ∃ t, Hid (decide ((qs.getD st.pc pq0).kind = 16) = t) := ⟨_, (rfl : _ = _)⟩
      by_cases hlt : k < N
      · have hki : (k : Int) < (400 : Int) := by have := HLN.out; omega
        go_wp2_with fail
        refine (mdone_any _ b F' qs st _ HMS HWS.out.on t HT).mono ?_
        rintro e w2 ⟨rfl, hb2⟩
        have HM2 : Hid (Mac w2 w.heap.size b F' qs st) := HMS.out.on hb2
        have hbb2 := hbr.trans (hb2.mono hbr.size)
        cases t with
        | true =>
          have HPD : Hid (playR qs fuel = .inl st.frs) := by unfold Hid; rw [← HP.out]; exact play_done qs _ st (of_decide_eq_true HT.out)
          clear hb2
          go_wp2_with fail
          refine (mdone_any _ b F' qs st _ HM2 HWS.out.on true HT).mono ?_
          rintro e w3 ⟨rfl, hb3⟩
          have hbb3 := hbb2.trans (hb3.mono hbb2.size)
          obtain ⟨vo, bm, vr, vb, vk, vf, hm1, hm2, hm3⟩ := HM2.out.on hb3
          obtain ⟨NN, hB⟩ := mac_nine hm1
          have n8 := NN.c8
          obtain ⟨fv, hf1, hf2⟩ := hm2.frs
          obtain ⟨fa, fc, hvf⟩ := own_any hf1.1
          subst hvf
          have HF1 := hid_of2 hf1
          have HF2 := hid_of2 hf2
          clear hm1 hm2 hm3 NN hf1 hf2 hb3
          go_wp2_with fail
          go_ret2
          exact ⟨hbb3, .inl ⟨_, fv, rfl, HF1.out, by rw [HPD.out, HF2.out]⟩⟩
        | false =>
          clear hb2
          go_wp2_with fail
          refine (mstep_any _ b F' qs st _ HM2 HBK HWS).mono ?_
          rintro e w3 ⟨F2, rfl, hm3, hf3⟩
          have hbb3 : Below w.heap.size w w3 := hbb2.trans (hf3.belowB HM2.out.low hbb2.size)
          have hnd : ¬ doneM qs st := of_decide_eq_false HT.out
          have HND := hid_of2 hnd
          obtain ⟨r, HRR⟩ : ∃ r, Hid (stepM qs st = r) := ⟨_, (rfl : _ = _)⟩
          rw [HRR.out] at hm3 ⊢
          clear hnd hf3
          cases r with
          | inr c =>
            have HC0 := hid_of2 (stepM_err HRR.out)
            have HPD : Hid (playR qs fuel = .inr c) := by
              unfold Hid
              rw [← HP.out, show N - k = (N - k - 1) + 1 by omega, playM, if_neg HND.out, HRR.out]
            unfold numM
            rw [errV_pos HC0.out]
            go_wp2_with fail
            go_ret2
            exact ⟨hbb3, .inr ⟨c, HC0.out, HPD.out, by rw [errV_pos HC0.out]; rfl⟩⟩
          | inl s' =>
            have HP2 : Hid (playM qs (N - (k + 1)) s' = playR qs fuel) := by
              unfold Hid
              rw [← HP.out, show N - k = (N - (k + 1)) + 1 by omega, play_step qs _ st s' HND.out HRR.out]
            have HW2 : Hid (Way qs s') := stepM_way HBK.out HWS.out HRR.out
            have HM3 : Hid (Mac w3 w.heap.size b F2 qs s') := hm3
            clear hm3
            unfold numM
            rw [show errV 0 = Value.nilIface from rfl]
            go_wp2_with fail
            go_roundw
            case rel => exact ⟨k + 1, s', F2, by omega, by go_num, HM3, HW2, HP2, hbb3⟩
            case measure => simp [intOf]; omega
      · have hki : ¬ (k : Int) < (400 : Int) := by have := HLN.out; omega
        have hkN : N - k = 0 := by omega
        rw [hkN] at HP
        clear hkN
        go_wp2_with fail
        refine (mdone_any _ b F' qs st _ HMS HWS.out.on t HT).mono ?_
        rintro e w3 ⟨rfl, hb3⟩
        have hbb3 := hbr.trans (hb3.mono hbr.size)
        cases t with
        | true =>
          have HPD : Hid (playR qs fuel = .inl st.frs) := by unfold Hid; rw [← HP.out]; exact play_done qs _ st (of_decide_eq_true HT.out)
          obtain ⟨vo, bm, vr, vb, vk, vf, hm1, hm2, hm3⟩ := HMS.out.on hb3
          obtain ⟨NN, hB⟩ := mac_nine hm1
          have n8 := NN.c8
          obtain ⟨fv, hf1, hf2⟩ := hm2.frs
          obtain ⟨fa, fc, hvf⟩ := own_any hf1.1
          subst hvf
          have HF1 := hid_of2 hf1
          have HF2 := hid_of2 hf2
          clear hm1 hm2 hm3 NN hf1 hf2 hb3
          go_wp2_with fail
          go_ret2
          exact ⟨hbb3, .inl ⟨_, fv, rfl, HF1.out, by rw [HPD.out, HF2.out]⟩⟩
        | false =>
          have HPD : Hid (playR qs fuel = .inr 8) := by
            unfold Hid
            rw [← HP.out, playM, if_neg (show ¬ doneM qs st from of_decide_eq_false HT.out)]
          clear hb3
          go_wp2_with fail
          go_ret2
          exact ⟨hbb3, .inr ⟨8, by omega, HPD.out, rfl⟩⟩
end Go.Proofs.YtceabiodelfdoaaGreatDoor
/- Walks of the laws' own functions: LightOps, may, plain, works. -/
namespace Go.Proofs.YtceabiodelfdoaaGreatDoor
open Go.RowKit Go.Maps

/-- ops that are few, and not too much -/
structure LightQs (qs : List Pq) : Prop where
  few : qs.length ≤ 70
  pix : ∀ j, j < qs.length → (qs.getD j pq0).ps.length ≤ 80

set_option maxHeartbeats 8000000 in
set_option maxRecDepth 100000 in
theorem lightOps_any (v : Value) (qs : List Pq) (w : World) (HR : Hid (RdQ w v qs)) :
    Calls Tryz.prog 6 #[v, .int .i64 70] w fun e w' => ∃ b, e = .returned (.bool b) ∧ (b = true → LightQs qs) ∧ Below w.heap.size w w' := by
  obtain ⟨a, cap, hv, hl, hcap⟩ := HR.out.shape
  obtain ⟨n, HN⟩ : ∃ n, Hid (qs.length = n) := ⟨_, (rfl : _ = _)⟩
  rw [HN.out] at hv hl
  subst hv
  by_cases h70 : 70 < n
  · have h70i : (70 : Int) < (n : Int) := by omega
    go_enter Tryz.func6, Tryz.ntmps6
    go_wp2_with fail
    go_ret
    exact ⟨false, rfl, (by intro h; cases h), Below.refl _ _⟩
  have h70i : ¬ (70 : Int) < (n : Int) := by omega
  have hbz : Below w.heap.size w w := Below.refl _ _
  go_enter Tryz.func6, Tryz.ntmps6
  go_wp2_with fail
  go_loopw [5] (fun i wr => ∃ k : Nat, k ≤ n ∧ i = .int .i64 k ∧ Hid (∀ j, j < k → (qs.getD j pq0).ps.length ≤ 80) ∧ Below w.heap.size w wr) (fun i _ => n - (intOf i).toNat)
  case atStart => exact ⟨0, by omega, rfl, (by intro j hj; omega), hbz⟩
  case round =>
    obtain ⟨k, hk, rfl, HP, hbr⟩ := hrel
    by_cases hlt : k < n
    · obtain ⟨q, HX⟩ : ∃ q, Hid (qs.getD k pq0 = q) := ⟨_, (rfl : _ = _)⟩
      obtain ⟨g, o, ua, mu, uc, rfl, hg, OC, HU, HMU⟩ := (HR.out.on hbr).at hlt HX
      obtain ⟨c0, c1, c2, c3, c4, c5, c6, c7, c8⟩ := OC
      have hki0 : (0 : Int) ≤ (k : Int) := by omega
      have hki1 : (k : Int) < (n : Int) := by omega
      have hmu : mu ≤ 9223372036854775807 := by obtain ⟨_, _, h, h2, h3, _⟩ := HU.out; simp only [Value.slice.injEq] at h; omega
      clear HU
      by_cases h80 : mu ≤ 80
      · have HP2 : Hid (∀ j, j < k + 1 → (qs.getD j pq0).ps.length ≤ 80) := by
          intro j hj
          rcases Nat.eq_or_lt_of_le (Nat.le_of_lt_succ hj) with rfl | hj
          · rw [HX.out, HMU.out]; exact h80
          · exact HP.out j hj
        have HB80 : Hid (decide (mu ≤ 80) = true) := by unfold Hid; simp [h80]
        go_wp2_with fail
        refine (light_any q.pw q.ph ua mu uc _ hmu true HB80).mono ?_
        rintro e w2 ⟨rfl, hb2⟩
        have hbb2 := hbr.trans (hb2.mono hbr.size)
        clear hb2
        go_wp2_with fail
        go_roundw
        case rel => exact ⟨k + 1, by omega, by go_num, HP2, hbb2⟩
        case measure => simp [intOf]; omega
      · have HB80 : Hid (decide (mu ≤ 80) = false) := by unfold Hid; simp [h80]
        go_wp2_with fail
        refine (light_any q.pw q.ph ua mu uc _ hmu false HB80).mono ?_
        rintro e w2 ⟨rfl, hb2⟩
        have hbb2 := hbr.trans (hb2.mono hbr.size)
        go_wp2_with fail
        go_ret
        exact ⟨false, rfl, (by intro h; cases h), hbb2⟩
    · obtain rfl : k = n := by omega
      have HL : Hid (LightQs qs) := ⟨by rw [HN.out]; omega, fun j hj => HP.out j (by rw [HN.out] at hj; exact hj)⟩
      go_wp2_with fail
      go_ret
      exact ⟨true, rfl, fun _ => HL.out, hbr⟩

/-- a book that the laws speak of -/
structure MayQ (qs : List Pq) : Prop where
  light : LightQs qs
  ok : bkC qs = 0
set_option maxHeartbeats 8000000 in
set_option maxRecDepth 100000 in
theorem may_any (v : Value) (qs : List Pq) (w : World) (HS : Hid (Shapes w)) (h1 : 0 < w.heap.size) (HR : Hid (RdQ w v qs)) :
    Calls Tryz.prog 12 #[v] w fun e w' => ∃ b, e = .returned (.bool b) ∧ (b = true → MayQ qs) ∧ Below w.heap.size w w' := by
  obtain ⟨a, cap, hv, _, _⟩ := HR.out.shape
  obtain ⟨n, HN⟩ : ∃ n, Hid (qs.length = n) := ⟨_, (rfl : _ = _)⟩
  rw [HN.out] at hv
  subst hv
  obtain ⟨c, HC⟩ : ∃ c, Hid (bkC qs = c) := ⟨_, (rfl : _ = _)⟩
  go_enter Tryz.func12, Tryz.ntmps12
  go_wp2_with fail
  refine (lightOps_any _ qs _ HR).mono ?_
  rintro e w1 ⟨b, rfl, hl, hb1⟩
  cases b with
  | false =>
    go_wp2_with fail
    go_ret
    exact ⟨false, rfl, (by intro h; cases h), hb1⟩
  | true =>
    have HL := hid_of2 (hl rfl)
    have HS1 : Hid (Shapes w1) := HS.out.on h1 hb1
    have h11 := Nat.lt_of_lt_of_le h1 hb1.size
    have HR1 : Hid (RdQ w1 (.slice a n cap) qs) := HR.out.on hb1
    clear hl
    go_wp2_with fail
    refine (bookCheck_any _ qs _ HS1 h11 HR1 (fun j hj => by have := HL.out.pix j hj; omega) (by have := HL.out.few; omega) c HC).mono ?_
    rintro e w2 ⟨rfl, hb2⟩
    have hbb2 := hb1.trans (hb2.mono hb1.size)
    cases c with
    | succ c =>
      rw [show errV (c + 1) = .iface 62 (.int .i64 ((c + 1 : Nat) : Int)) from rfl]
      go_wp2_with fail
      go_ret
      exact ⟨false, rfl, (by intro h; cases h), hbb2⟩
    | zero =>
      rw [show errV 0 = Value.nilIface from rfl]
      go_wp2_with fail
      go_ret
      exact ⟨true, rfl, fun _ => ⟨HL.out, HC.out⟩, hbb2⟩
theorem MayQ.ps {qs : List Pq} (h : MayQ qs) : ∀ j, j < qs.length → (qs.getD j pq0).ps.length ≤ 100 := fun j hj => by have := h.light.pix j hj; omega
theorem MayQ.len {qs : List Pq} (h : MayQ qs) : qs.length ≤ 1000 := by have := h.light.few; omega

end Go.Proofs.YtceabiodelfdoaaGreatDoor
/- What is told: what is taken away or hidden, moved and back, waits, backs, loops in loops. -/
namespace Go.Proofs.YtceabiodelfdoaaGreatDoor
open Go.RowKit

@[reducible] def mvQ (i x y : Int) : Pq := ⟨3, i, x, y, 0, 0, 0, 0, []⟩
@[reducible] def shQ (i a : Int) : Pq := ⟨5, i, a, 0, 0, 0, 0, 0, []⟩
@[reducible] def drQ (i : Int) : Pq := ⟨7, i, 0, 0, 0, 0, 0, 0, []⟩
@[reducible] def bkQ (v a : Int) : Pq := ⟨10, 0, v, a, 0, 0, 0, 0, []⟩
@[reducible] def wtQ (a : Int) : Pq := ⟨11, 0, a, 0, 0, 0, 0, 0, []⟩
@[reducible] def lpQ (a : Int) : Pq := ⟨12, 0, a, 0, 0, 0, 0, 0, []⟩
@[reducible] def nxQ : Pq := ⟨13, 0, 0, 0, 0, 0, 0, 0, []⟩
@[reducible] def svQ : Pq := ⟨14, 0, 0, 0, 0, 0, 0, 0, []⟩
@[reducible] def skQ : Pq := ⟨15, 0, 0, 0, 0, 0, 0, 0, []⟩
@[reducible] def enQ : Pq := ⟨16, 0, 0, 0, 0, 0, 0, 0, []⟩
@[reducible] def hdQ (a b : Int) : Pq := ⟨1, 0, a, b, 0, 0, 0, 0, []⟩

theorem act_fine (H : Pq) (d d' : Dt) (q : Pq) (h : opC q = 0) (h1 : FineO d.obs) (h2 : FineO d.kept) (hd : actD H d q = .inl d') : FineO d'.obs ∧ FineO d'.kept := by
  unfold actD at hd
  split at hd
  · obtain rfl := Sum.inl.inj hd; exact ⟨h1, h2⟩
  split at hd
  · obtain rfl := Sum.inl.inj hd; exact ⟨h1, h2⟩
  split at hd
  · split at hd
    · cases hd
    · obtain rfl := Sum.inl.inj hd; exact ⟨h1, h2⟩
  split at hd
  · obtain rfl := Sum.inl.inj hd; exact ⟨h1, h1⟩
  split at hd
  · obtain rfl := Sum.inl.inj hd; exact ⟨h2, h2⟩
  split at hd
  · rename_i rs hr
    obtain rfl := Sum.inl.inj hd
    exact ⟨do_fine h1 h hr, h2⟩
  · cases hd
theorem run_fine (H : Pq) : ∀ (r : List Pq) (d d' : Dt), (∀ q ∈ r, opC q = 0) → FineO d.obs → FineO d.kept → runD H r d = .inl d' → FineO d'.obs ∧ FineO d'.kept := by
  intro r
  induction r with
  | nil => intro d d' _ h1 h2 h; obtain rfl := Sum.inl.inj h; exact ⟨h1, h2⟩
  | cons q r ih =>
    intro d d' hq h1 h2 h
    simp only [runD] at h
    cases ha : actD H d q with
    | inr c => rw [ha] at h; cases h
    | inl d1 =>
      rw [ha] at h
      obtain ⟨a1, a2⟩ := act_fine H d d1 q (hq q (by simp)) h1 h2 ha
      exact ih d1 d' (fun z hz => hq z (by simp [hz])) a1 a2 h
theorem dt0_fine : FineO dt0.obs ∧ FineO dt0.kept := ⟨fine_nil, fine_nil⟩
theorem act_wait (H : Pq) (d : Dt) (a : Int) : actD H d (wtQ a) = if 40 ≤ d.frs.length then .inr 7 else .inl { d with frs := d.frs ++ [tellD H d a] } := by
  unfold actD
  rw [if_neg (by simp), if_neg (by simp), if_pos rfl]
theorem act_obj (H : Pq) (d : Dt) (q : Pq) (h : q.kind = 3 ∨ q.kind = 5 ∨ q.kind = 7) : actD H d q = match doO d.obs q with | .inl rs => .inl { d with obs := rs } | .inr c => .inr c := by
  unfold actD
  rw [if_neg (by omega), if_neg (by omega), if_neg (by omega), if_neg (by omega), if_neg (by omega)]
  first | done | (cases doO d.obs q <;> rfl)

/-- two waits with nothing between tell the same -/
theorem told_still (H : Pq) (r : List Pq) (a b : Int) (d0 d : Dt) (h : runD H (r ++ [wtQ a, wtQ b]) d0 = .inl d) :
    ∃ fs f g, d.frs = fs ++ [f, g] ∧ f.d = a ∧ g.d = b ∧ g.W = f.W ∧ g.H = f.H ∧ g.ps = f.ps := by
  rw [runD_app] at h
  cases hr : runD H r d0 with
  | inr c => rw [hr] at h; cases h
  | inl d1 =>
    rw [hr] at h
    simp only [runD, act_wait] at h
    by_cases h1 : 40 ≤ d1.frs.length
    · simp only [if_pos h1] at h; cases h
    · simp only [if_neg h1] at h
      split at h
      · rename_i x hx
        split at hx
        · cases hx
        · obtain rfl := Sum.inl.inj hx
          obtain rfl := Sum.inl.inj h
          exact ⟨d1.frs, tellD H d1 a, tellD H d1 b, by simp [tellD], rfl, rfl, rfl, rfl, rfl⟩
      · cases h

theorem do_drop (os : List Po) (i : Int) : doO os (drQ i) = match os.find? (fun o => decide (o.id = i)) with | none => .inr 5 | some _ => .inl (dropO os i) := by
  unfold doO
  rw [if_neg (by simp)]
  simp only
  cases os.find? (fun o => decide (o.id = i)) with
  | none => rfl
  | some o => simp
theorem do_show (os : List Po) (i a : Int) : doO os (shQ i a) = match os.find? (fun o => decide (o.id = i)) with | none => .inr 5 | some o => .inl (setO os { o with sh := decide (a = 1) }) := by
  unfold doO
  rw [if_neg (by simp)]
  simp only
  cases os.find? (fun o => decide (o.id = i)) with
  | none => rfl
  | some o => simp [actO]
theorem do_move (os : List Po) (i x y : Int) : doO os (mvQ i x y) = match os.find? (fun o => decide (o.id = i)) with | none => .inr 5 | some o => .inl (setO os { o with x := x, y := y }) := by
  unfold doO
  rw [if_neg (by simp)]
  simp only
  cases os.find? (fun o => decide (o.id = i)) with
  | none => rfl
  | some o => simp [actO]
theorem find_ix {os : List Po} {i : Int} {o : Po} (h : os.find? (fun o => decide (o.id = i)) = some o) : ∃ j, j < os.length ∧ os.getD j po0 = o ∧ o.id = i := by
  have hm := List.mem_of_find?_eq_some h
  obtain ⟨j, hj, e⟩ := List.mem_iff_getElem.1 hm
  exact ⟨j, hj, by rw [List.getD_eq_getElem?_getD, List.getElem?_eq_getElem hj]; exact e, by simpa using List.find?_some h⟩
theorem setO_at {os : List Po} (hs : SortO os) {j : Nat} (hj : j < os.length) (x : Po) (hx : (os.getD j po0).id = x.id) : setO os x = os.set j x :=
  setO_put x os j hj (fun k hk => by have := hs k j hk hj; omega) hx
theorem seen_away (W H : Nat) (b : Int × Int) {os : List Po} (hs : SortO os) {i : Int} {o : Po} (h : os.find? (fun o => decide (o.id = i)) = some o) :
    seenL W H b (setO os { o with sh := false }) = seenL W H b (dropO os i) := by
  obtain ⟨j, hj, e, hi⟩ := find_ix h
  rw [setO_at hs hj _ (by rw [e])]
  have := set_hide os hs j hj i (by rw [e]; exact hi)
  rw [e] at this
  unfold seenL dropO
  rw [show ({ o with sh := false } : Po) = o.hide from rfl, this]
  exact seen_hide W i os _
/-- what is taken away is as what is hidden -/
theorem told_away (H : Pq) (r : List Pq) (i : Int) (hr : ∀ q ∈ r, opC q = 0) :
    (match runD H (r ++ [drQ i, wtQ 0]) dt0 with | .inl d => .inl d.frs | .inr c => .inr c : List Pf ⊕ Nat) = (match runD H (r ++ [shQ i 0, wtQ 0]) dt0 with | .inl d => .inl d.frs | .inr c => .inr c) := by
  rw [runD_app, runD_app]
  cases h : runD H r dt0 with
  | inr c => rfl
  | inl d =>
    obtain ⟨hf, _⟩ := run_fine H r dt0 d hr dt0_fine.1 dt0_fine.2 h
    simp only [runD]
    rw [act_obj H d (drQ i) (by simp), act_obj H d (shQ i 0) (by simp), do_drop, do_show]
    cases ho : d.obs.find? (fun o => decide (o.id = i)) with
    | none => rfl
    | some o =>
      simp only [act_wait]
      by_cases h40 : 40 ≤ d.frs.length
      · simp only [if_pos h40]
      · simp only [if_neg h40]
        rw [show (decide ((0 : Int) = 1)) = false from rfl]
        unfold tellD
        simp only
        rw [seen_away _ _ _ hf.sort ho]

theorem find_setO {os : List Po} (hs : SortO os) {i : Int} {o : Po} (h : os.find? (fun o => decide (o.id = i)) = some o) (x : Po) (hx : x.id = i) : (setO os x).find? (fun o => decide (o.id = i)) = some x := by
  obtain ⟨j, hj, e, hi⟩ := find_ix h
  rw [setO_at hs hj x (by rw [e]; omega)]
  have hl : j < (os.set j x).length := by simpa using hj
  have hg : (os.set j x).getD j po0 = x := by simp [List.getD_eq_getElem?_getD, hj]
  have hs2 : SortO (os.set j x) := by
    rw [← setO_at hs hj x (by rw [e]; omega)]; exact setO_sort x os hs
  have := find_at (os.set j x) i hs2 j hl (by rw [hg]; exact hx)
  rw [hg] at this
  exact this
theorem setO_twice {os : List Po} (hs : SortO os) {i : Int} {o : Po} (h : os.find? (fun o => decide (o.id = i)) = some o) (x y : Po) (hx : x.id = i) (hy : y.id = i) : setO (setO os x) y = setO os y := by
  obtain ⟨j, hj, e, hi⟩ := find_ix h
  rw [setO_at hs hj y (by rw [e]; omega)]
  have h2 := setO_at hs hj x (by rw [e]; omega)
  have hs2 := setO_sort x os hs
  rw [h2] at hs2 ⊢
  rw [setO_at hs2 (j := j) (by simpa using hj) y (by simp [List.getD_eq_getElem?_getD, hj]; omega)]
  simp
/-- the ops of one object that is there -/
theorem act_set (H : Pq) (d : Dt) {os : List Po} (hs : SortO os) {i : Int} {o x : Po} (h : os.find? (fun o => decide (o.id = i)) = some o) (hx : x.id = i) (hd : d.obs = setO os x) (mx my : Int) :
    actD H d (mvQ i mx my) = .inl { d with obs := setO os { x with x := mx, y := my } } := by
  rw [act_obj H d _ (by simp), do_move, hd, find_setO hs h x hx]
  simp only
  rw [setO_twice hs h x _ hx (by simpa using hx)]
theorem act_sho (H : Pq) (d : Dt) {os : List Po} (hs : SortO os) {i : Int} {o x : Po} (h : os.find? (fun o => decide (o.id = i)) = some o) (hx : x.id = i) (hd : d.obs = setO os x) (a : Int) :
    actD H d (shQ i a) = .inl { d with obs := setO os { x with sh := decide (a = 1) } } := by
  rw [act_obj H d _ (by simp), do_show, hd, find_setO hs h x hx]
  simp only
  rw [setO_twice hs h x _ hx (by simpa using hx)]
theorem setO_self {os : List Po} (hs : SortO os) {i : Int} {o : Po} (h : os.find? (fun o => decide (o.id = i)) = some o) : setO os o = os := by
  obtain ⟨j, hj, e, hi⟩ := find_ix h
  rw [setO_at hs hj o (by rw [e]), ← e]
  apply List.ext_getElem
  · simp
  · intro k h1 h2
    rw [List.getElem_set]
    split
    · rename_i hk; subst hk
      rw [List.getD_eq_getElem?_getD, List.getElem?_eq_getElem h2]; rfl
    · rfl
theorem app3 {α : Type} (a : List α) (x y z : α) : a ++ [x] ++ [y] ++ [z] = a ++ [x, y, z] := by simp
def moveQs (i x y : Int) : List Pq := [mvQ i 0 0, shQ i 1, wtQ 0, mvQ i x y, wtQ 0, shQ i 0, mvQ i 0 0, shQ i 1, wtQ 0]
/-- what is moved and back is seen as before -/
theorem told_move (H : Pq) (r : List Pq) (i x y : Int) (hr : ∀ q ∈ r, opC q = 0) (d : Dt) (h : runD H (r ++ moveQs i x y) dt0 = .inl d) :
    ∃ fs f g k, d.frs = fs ++ [f, g, k] ∧ k.W = f.W ∧ k.H = f.H ∧ k.ps = f.ps := by
  rw [runD_app] at h
  cases hr1 : runD H r dt0 with
  | inr c => rw [hr1] at h; cases h
  | inl d0 =>
    obtain ⟨hf, _⟩ := run_fine H r dt0 d0 hr dt0_fine.1 dt0_fine.2 hr1
    rw [hr1] at h
    simp only [moveQs, runD] at h
    cases ho : d0.obs.find? (fun o => decide (o.id = i)) with
    | none =>
      rw [act_obj H d0 _ (by simp), do_move, ho] at h
      cases h
    | some o =>
      obtain ⟨_, _, _, hi⟩ := find_ix ho
      have hs := hf.sort
      rw [act_set H d0 hs ho hi (setO_self hs ho).symm] at h
      simp only at h
      rw [act_sho H _ hs ho (x := { o with x := 0, y := 0 }) hi rfl] at h
      simp only [act_wait] at h
      by_cases h1 : 40 ≤ d0.frs.length
      · simp only [if_pos h1] at h; cases h
      simp only [if_neg h1] at h
      rw [act_set H _ hs ho (x := { o with x := 0, y := 0, sh := decide ((1 : Int) = 1) }) hi rfl] at h
      simp only at h
      split at h
      · rename_i e1 he1
        split at he1
        · cases he1
        obtain rfl := Sum.inl.inj he1
        rw [act_sho H _ hs ho (x := { o with x := x, y := y, sh := decide ((1 : Int) = 1) }) hi rfl] at h
        simp only at h
        rw [act_set H _ hs ho (x := { o with x := x, y := y, sh := decide ((0 : Int) = 1) }) hi rfl] at h
        simp only at h
        rw [act_sho H _ hs ho (x := { o with x := 0, y := 0, sh := decide ((0 : Int) = 1) }) hi rfl] at h
        simp only at h
        split at h
        · rename_i e2 he2
          split at he2
          · cases he2
          obtain rfl := Sum.inl.inj he2
          obtain rfl := Sum.inl.inj h
          exact ⟨d0.frs, _, _, _, app3 _ _ _ _, rfl, rfl, rfl⟩
        · cases h
      · cases h

def lastB (l : List (Int × Int)) (d : Int × Int) : Int × Int := l.foldl (fun _ p => p) d
theorem told_backs (H : Pq) : ∀ (l : List (Int × Int)) (d : Dt), runD H (l.map fun p => bkQ p.1 p.2) d = .inl { d with bv := (lastB l (d.bv, d.ba)).1, ba := (lastB l (d.bv, d.ba)).2 } := by
  intro l
  induction l with
  | nil => intro d; rfl
  | cons p l ih =>
    intro d
    simp only [List.map_cons, runD]
    have : actD H d (bkQ p.1 p.2) = .inl { d with bv := p.1, ba := p.2 } := by
      unfold actD
      rw [if_neg (by simp), if_pos rfl]
    rw [this]
    exact ih _
theorem told_back (l : List (Int × Int)) (W H : Int) : runD (hdQ W H) (hdQ W H :: (l.map (fun p => bkQ p.1 p.2) ++ [wtQ 1])) dt0 = .inl { dt0 with bv := (lastB l (0, 0)).1, ba := (lastB l (0, 0)).2, frs := [⟨W, H, List.replicate (W.toNat * H.toNat) (lastB l (0, 0)), 1⟩] } := by
  have h0 : actD (hdQ W H) dt0 (hdQ W H) = .inl dt0 := by unfold actD; rw [if_pos rfl]
  simp only [runD, h0]
  rw [runD_app, told_backs]
  simp only [runD, act_wait]
  rw [if_neg (by simp [dt0])]
  simp [dt0, tellD, seenL]

theorem it_wait (H : Pq) (w : Int) : ∀ (t : Nat) (d : Dt), d.frs.length + t ≤ 40 → ∃ d', itB (runD H [wtQ w]) t d = .inl d' ∧ d'.frs.length = d.frs.length + t := by
  intro t
  induction t with
  | zero => intro d _; exact ⟨d, rfl, rfl⟩
  | succ t ih =>
    intro d h
    simp only [itB, runD, act_wait]
    rw [if_neg (by omega)]
    obtain ⟨d', h1, h2⟩ := ih { d with frs := d.frs ++ [tellD H d w] } (by simp only [List.length_append, List.length_singleton]; omega)
    exact ⟨d', h1, by rw [h2]; simp only [List.length_append, List.length_singleton]; omega⟩
theorem it_nest (H : Pq) (w : Int) (b : Nat) : ∀ (t : Nat) (d : Dt), d.frs.length + t * b ≤ 40 → ∃ d', itB (itB (runD H [wtQ w]) b) t d = .inl d' ∧ d'.frs.length = d.frs.length + t * b := by
  intro t
  induction t with
  | zero => intro d _; exact ⟨d, rfl, by omega⟩
  | succ t ih =>
    intro d h
    rw [Nat.succ_mul] at h
    obtain ⟨d1, h1, h2⟩ := it_wait H w b d (by omega)
    simp only [itB, h1]
    obtain ⟨d', h3, h4⟩ := ih d1 (by omega)
    exact ⟨d', h3, by rw [h4, h2, Nat.succ_mul]; omega⟩
/-- a loop in a loop -/
theorem told_nest (a b : Nat) (w : Int) (ha : a ≤ 9) (h40 : a * b ≤ 40) : ∃ fs, playM [hdQ 1 1, lpQ a, lpQ b, wtQ w, nxQ, nxQ, enQ] 400 ms0 = .inl fs ∧ fs.length = a * b := by
  obtain ⟨qs, hqs⟩ : ∃ qs, [hdQ 1 1, lpQ a, lpQ b, wtQ w, nxQ, nxQ, enQ] = qs := ⟨_, rfl⟩
  rw [hqs]
  have l1 := leads_run qs [hdQ 1 1] [lpQ a, lpQ b, wtQ w, nxQ, nxQ, enQ] 0 (by rw [← hqs]; rfl) (by intro q hq; simp at hq; subst hq; exact ⟨by simp, by simp, by simp⟩)
  have l2 := leads_run qs [wtQ w] [nxQ, nxQ, enQ] 3 (by rw [← hqs]; rfl) (by intro q hq; simp at hq; subst hq; exact ⟨by simp, by simp, by simp⟩)
  have c2 : Clo qs 2 4 := clo_plain qs [wtQ w] [nxQ, enQ] (lpQ b) nxQ 2 (by rw [← hqs]; rfl) rfl rfl (by intro q hq; simp at hq; subst hq; exact ⟨by simp, by simp, by simp⟩)
  have l3 := leads_loop (p := 2) l2 (L := lpQ b) (N := nxQ) (by rw [← hqs]; rfl) rfl (by rw [← hqs]; rfl) rfl b rfl c2
  have c1 : Clo qs 1 5 := by
    refine ⟨by omega, by rw [← hqs]; simp, by rw [← hqs]; rfl, by rw [← hqs]; rfl, by rw [← hqs]; simp [dep, opn], fun k h1 h2 => ?_⟩
    have : k = 2 ∨ k = 3 ∨ k = 4 ∨ k = 5 := by omega
    rw [← hqs]
    rcases this with rfl | rfl | rfl | rfl <;> simp [dep, opn]
  have l4 := leads_loop (p := 1) l3 (L := lpQ a) (N := nxQ) (by rw [← hqs]; rfl) rfl (by rw [← hqs]; rfl) rfl a rfl c1
  have l5 := l1.then (show Leads qs (0 + [hdQ 1 1].length) _ _ _ from l4)
  have hfu : [hdQ 1 1].length + (a * (b * ([wtQ w].length + 1) + 1 + 1) + 1) ≤ 400 := by
    simp only [List.length_singleton]
    have e : a * (b * (1 + 1) + 1 + 1) = 2 * (a * b) + 2 * a := by
      rw [show b * (1 + 1) + 1 + 1 = 2 * b + 2 by omega, Nat.mul_add, Nat.mul_left_comm]
      omega
    omega
  have := leads_play l5 (E := enQ) (by rw [← hqs]; rfl) rfl 400 hfu
  rw [this]
  obtain ⟨d', h1, h2⟩ := it_nest (qs.getD 0 pq0) w b a dt0 (by simp [dt0]; exact h40)
  have h0 : runD (qs.getD 0 pq0) [hdQ 1 1] dt0 = .inl dt0 := by
    simp only [runD]
    have : actD (qs.getD 0 pq0) dt0 (hdQ 1 1) = .inl dt0 := by unfold actD; rw [if_pos rfl]
    rw [this]
  rw [h0]
  dsimp only
  rw [h1]
  exact ⟨d'.frs, rfl, by rw [h2]; simp [dt0]⟩
end Go.Proofs.YtceabiodelfdoaaGreatDoor
/- Walk of the laws' closed fact: works. -/
namespace Go.Proofs.YtceabiodelfdoaaGreatDoor
open Go.RowKit Go.Maps

theorem own_news {w : World} {T : TypeId} {B : Nat} (cs : List Value) (s n : Nat) (hB : B ≤ w.heap.size) (hl : cs.length = n * s) (hn : n ≤ 1000) : (w.alloc (.cells cs.toArray T)).ownsRow B T s (.slice (some ⟨w.heap.size, 0, none⟩) n n) n cs :=
  ⟨hl, .inr ⟨w.heap.size, n, cs.toArray, rfl, hB, heap_alloc_new w _, Nat.le_refl _, by unfold maxLen; omega, by simp [hl], by rw [← hl]; simp⟩⟩
/-- ops of no picture, just made -/
def litQ (l : List Pq) : List (Pq × Value) := l.map fun q => (q, .slice none 0 0)
theorem litQ_fst (l : List Pq) : (litQ l).map Prod.fst = l := by
  induction l with
  | nil => rfl
  | cons q r ih => simp only [litQ, List.map_cons] at ih ⊢; rw [ih]
theorem own_lits {w : World} {B : Nat} (l : List Pq) (hB : B ≤ w.heap.size) (hp : ∀ q ∈ l, q.ps = []) (hn : l.length ≤ 1000) : OwnQ (w.alloc (.cells (qrCells (litQ l)).toArray 48)) B (.slice (some ⟨w.heap.size, 0, none⟩) l.length l.length) (litQ l) := by
  have hl : (litQ l).length = l.length := by simp [litQ]
  refine ⟨?_, fun q hq => ?_⟩
  · rw [hl]; exact own_news _ 9 _ hB (by rw [qrCells_length, hl]) hn
  · obtain ⟨x, hx, rfl⟩ := List.mem_map.1 hq
    simp only [hp x hx]
    exact World.ownsRow_nil _ _ _ _
theorem rd_lits {w : World} (l : List Pq) (hp : ∀ q ∈ l, q.ps = []) (hn : l.length ≤ 1000) : RdQ (w.alloc (.cells (qrCells (litQ l)).toArray 48)) (.slice (some ⟨w.heap.size, 0, none⟩) l.length l.length) l := by
  have := (own_lits l (Nat.le_refl w.heap.size) hp hn).rd
  rw [litQ_fst] at this
  exact this
@[reducible] def wkQ : List Pq := [hdQ 1 1, bkQ 7 255, wtQ 3, enQ]
theorem works_play : playR wkQ 9 = .inl [⟨1, 1, [(7, 255)], 3⟩] := by rfl

set_option maxHeartbeats 8000000 in
set_option maxRecDepth 100000 in
theorem works_any (w : World) (HS : Hid (Shapes w)) (h1 : 0 < w.heap.size) :
    Calls Tryz.prog 5 #[] w fun e w' => e = .returned (.bool true) ∧ Below w.heap.size w w' := by
  have hb0 : Below w.heap.size w (w.alloc (.cells (qrCells (litQ wkQ)).toArray 48)) := (Below.refl _ _).alloc (Nat.le_refl _) _
  have HR0 : Hid (RdQ (w.alloc (.cells (qrCells (litQ wkQ)).toArray 48)) (.slice (some ⟨w.heap.size, 0, none⟩) 4 4) wkQ) := rd_lits wkQ (by intro q hq; simp at hq; rcases hq with rfl | rfl | rfl | rfl <;> rfl) (by simp)
  have HS0 : Hid (Shapes (w.alloc (.cells (qrCells (litQ wkQ)).toArray 48))) := HS.out.on h1 hb0
  have h10 := Nat.lt_of_lt_of_le h1 hb0.size
  have HPL := mplay_any _ wkQ 9 _ HS0 h10 HR0 (by intro j hj; match j, hj with | 0, _ => simp | 1, _ => simp | 2, _ => simp | 3, _ => simp | j + 4, hj => exact absurd hj (by have e : wkQ.length = 4 := rfl; omega)) (by simp) (by omega)
  rw [works_play] at HPL
  have HPH := hid_of2 HPL
  clear HPL
  go_enter Tryz.func5, Tryz.ntmps5
  go_wp2_with fail
  refine HPH.out.mono ?_
  rintro e w1 ⟨hb1, hh⟩
  have hbb1 := hb0.trans (hb1.mono hb0.size)
  rcases hh with ⟨v1, fv, rfl, ho, hr⟩ | ⟨c, _, hr, _⟩
  case inr => cases hr
  have hfv := (Sum.inl.inj hr).symm
  have hl : fv.length = 1 := by have := congrArg List.length hfv; simpa using this
  obtain ⟨va, vc, hv⟩ := own_any ho.1
  rw [hl] at hv
  subst hv
  have HRF := ho.rd
  rw [hfv] at HRF
  obtain ⟨g, o, ua, m, uc, rfl, hg, c0, c1, c2, c3, HU, HM⟩ := HRF.at (k := 0) (by omega) (f := ⟨1, 1, [(7, 255)], 3⟩) (rfl : _ = _)
  obtain ⟨ua', uc', hu, _, _, hcell⟩ := HU.out
  simp only [Value.slice.injEq, List.length_singleton] at hu
  obtain ⟨rfl, rfl, rfl⟩ := hu
  obtain ⟨pg, po, rfl, hpg, hp⟩ := hcell (by simp)
  have p0 := (hp 0 (by simp)).1
  simp only [Nat.zero_mul, Nat.add_zero, List.getD_cons_zero] at c0 c1 c2 c3 p0
  clear hp hcell HU HM ho hfv hr HRF
  go_wp2_with fail
  go_ret
  exact ⟨rfl, hbb1⟩
end Go.Proofs.YtceabiodelfdoaaGreatDoor
/- Walk of the law's number. -/
namespace Go.Proofs.YtceabiodelfdoaaGreatDoor
open Go.RowKit

set_option maxRecDepth 100000 in
theorem number_zero (w : World) : Calls Tryz.prog 8 #[.nilIface] w fun e w' => e = .returned (.int .i64 0) ∧ w = w' := by
  go_enter Tryz.func8, Tryz.ntmps8
  go_wp2
  go_ret
  exact ⟨rfl, rfl⟩

theorem assert_errno (W : World) (n : Int) : (Instr.typeAssert (.iface 62 (.int .i64 n)) 26 62 true).run Tryz.prog W = .ok (.tuple #[.int .i64 n, .bool true]) W := by kernel_rfl

set_option maxRecDepth 100000 in
theorem number_some (n : Int) (w : World) : Calls Tryz.prog 8 #[.iface 62 (.int .i64 n)] w fun e w' => e = .returned (.int .i64 n) ∧ w = w' := by
  have ha := fun W => assert_errno W n
  go_enter Tryz.func8, Tryz.ntmps8
  go_wp2
  go_ret
  exact ⟨rfl, rfl⟩

end Go.Proofs.YtceabiodelfdoaaGreatDoor
/- Walk of the law's number. -/
namespace Go.Proofs.YtceabiodelfdoaaGreatDoor
open Go.RowKit

end Go.Proofs.YtceabiodelfdoaaGreatDoor
/- Walk: SameOp of two that are the same. -- s1 -/
namespace Go.Proofs.YtceabiodelfdoaaGreatDoor
open Go.RowKit

set_option maxHeartbeats 4000000 in
set_option maxRecDepth 100000 in
theorem sameOp_any (q : Pq) (u0 u1 : Value) (w : World) (hps : q.ps.length ≤ 1000) (H0 : Hid (RdP w u0 q.ps)) (H1 : Hid (RdP w u1 q.ps)) :
    Calls Tryz.prog 25 #[opV q u0, opV q u1] w fun e w' => e = .returned (.bool true) ∧ Below w.heap.size w w' := by
  obtain ⟨a0, c0, hv0, _, _, hh0⟩ := H0.out
  obtain ⟨a1, c1, hv1, _, _, hh1⟩ := H1.out
  obtain ⟨n, HN⟩ : ∃ n, Hid (q.ps.length = n) := ⟨_, (rfl : _ = _)⟩
  rw [HN.out] at hv0 hv1
  clear hh0 hh1
  subst hv0 hv1
  unfold opV
  have e1 : (q.kind == q.kind) = true := by simp
  have e2 : (q.id == q.id) = true := by simp
  have e3 : (q.a == q.a) = true := by simp
  have e4 : (q.b == q.b) = true := by simp
  have e5 : (q.c == q.c) = true := by simp
  have e6 : (q.d == q.d) = true := by simp
  obtain ⟨X0, HX0⟩ : ∃ X0, Hid ((w.alloc (.cells #[.int .i64 q.kind, .int .i64 q.id, .int .i64 q.a, .int .i64 q.b, .int .i64 q.c, .int .i64 q.d, .int .i64 q.pw, .int .i64 q.ph, .slice a0 n c0] 48)).alloc (.cells #[.int .i64 q.kind, .int .i64 q.id, .int .i64 q.a, .int .i64 q.b, .int .i64 q.c, .int .i64 q.d, .int .i64 q.pw, .int .i64 q.ph, .slice a1 n c1] 48) = X0) := ⟨_, (rfl : _ = _)⟩
  have hbz : Below w.heap.size w X0 := by rw [← HX0.out]; exact ((Below.refl _ _).alloc (Nat.le_refl _) _).alloc (by simp) _
  have E0 : Nine X0 w.heap.size (.int .i64 q.kind) (.int .i64 q.id) (.int .i64 q.a) (.int .i64 q.b) (.int .i64 q.c) (.int .i64 q.d) (.int .i64 q.pw) (.int .i64 q.ph) (.slice a0 n c0) := by rw [← HX0.out]; exact (nine_start w _ _ _ _ _ _ _ _ _ 48 w.heap.size rfl).alloc _
  have E1 : Nine X0 (w.heap.size + 1) (.int .i64 q.kind) (.int .i64 q.id) (.int .i64 q.a) (.int .i64 q.b) (.int .i64 q.c) (.int .i64 q.d) (.int .i64 q.pw) (.int .i64 q.ph) (.slice a1 n c1) := by rw [← HX0.out]; exact nine_start _ _ _ _ _ _ _ _ _ _ 48 (w.heap.size + 1) (by simp)
  have HR0 : Hid (RdP X0 (.slice a0 n c0) q.ps) := H0.out.on hbz
  have HR1 : Hid (RdP X0 (.slice a1 n c1) q.ps) := H1.out.on hbz
  go_enter Tryz.func25, Tryz.ntmps25
  go_wp2_with fail
  rw [HX0.out]
  refine (samePic_any q.pw q.ph _ _ q.ps _ hps HR0 HR1).mono ?_
  rintro e w1 ⟨rfl, hb1⟩
  have hbb1 := hbz.trans (hb1.mono hbz.size)
  obtain ⟨s0, s1, s2, s3, s4, s5, s6, s7, s8, -, -, -, -, -, -, -, -, -, -⟩ := E0.on hb1
  obtain ⟨t0, t1, t2, t3, t4, t5, t6, t7, t8, -, -, -, -, -, -, -, -, -, -⟩ := E1.on hb1
  clear HX0 hbz E0 E1 HR0 HR1 hb1
  go_wp2_with fail
  go_ret
  exact ⟨rfl, hbb1⟩
end Go.Proofs.YtceabiodelfdoaaGreatDoor
/- Plain lemmas: a chunk that was written is read as it was. -/
namespace Go.Proofs.YtceabiodelfdoaaGreatDoor
namespace Fb

set_option maxRecDepth 100000 in
theorem headL_len (name data : List UInt8) (h : name.length = 4) : (headL name data).length = 6 + data.length := by
  unfold headL pairL; simp [h]; omega

set_option maxRecDepth 100000 in
theorem sealL_len (l : List UInt8) : (sealL l).length = l.length + 2 := by unfold sealL pairL; simp

set_option maxRecDepth 100000 in
theorem headL_take4 (name data : List UInt8) (h : name.length = 4) : (headL name data).take 4 = name := by
  unfold headL; rw [List.append_assoc, List.take_append_of_le_length (by omega), List.take_of_length_le (by omega)]

set_option maxRecDepth 100000 in
theorem headL_drop6 (name data : List UInt8) (h : name.length = 4) : (headL name data).drop 6 = data := by
  unfold headL
  rw [List.drop_append_of_le_length (by unfold pairL; simp [h])]
  rw [List.drop_of_length_le (by unfold pairL; simp [h])]
  rfl

set_option maxRecDepth 100000 in
theorem headL_bytes (name data tail : List UInt8) (h : name.length = 4) :
    (headL name data ++ tail).getD 4 0 = UInt8.ofNat (data.length % 256) ∧ (headL name data ++ tail).getD 5 0 = UInt8.ofNat (data.length / 256) := by
  unfold headL pairL
  constructor
  · rw [List.append_assoc, List.append_assoc, List.getD_eq_getElem?_getD, List.getElem?_append_right (by omega), h]; rfl
  · rw [List.append_assoc, List.append_assoc, List.getD_eq_getElem?_getD, List.getElem?_append_right (by omega), h]; rfl

set_option maxRecDepth 100000 in
theorem endL_head (name data tail : List UInt8) (h : name.length = 4) (hd : data.length ≤ 65535) : endL (headL name data ++ tail) = 6 + data.length := by
  obtain ⟨h4, h5⟩ := headL_bytes name data tail h
  unfold endL
  rw [h4, h5, ofNat_toNat _ (by omega), ofNat_toNat _ (by omega)]
  omega

set_option maxRecDepth 100000 in
/-- what follows the head decides: the two bytes behind it are its sum, or they aren't -/
theorem measure_head (name data tail : List UInt8) (hn : nameB name = true) (hd : data.length ≤ 65535) (ht : 2 ≤ tail.length) :
    measureL (headL name data ++ tail) = if tail.take 2 = pairL (sumL (headL name data)).1 (sumL (headL name data)).2 then (8 + data.length, 0) else (0, 6) := by
  have h4 := nameB_len hn
  have hl : (headL name data ++ tail).length = 6 + data.length + tail.length := by rw [List.length_append, headL_len _ _ h4]
  have he := endL_head name data tail h4 hd
  have htk : (headL name data ++ tail).take 4 = name := by
    rw [List.take_append_of_le_length (by rw [headL_len _ _ h4]; omega), headL_take4 _ _ h4]
  have htk2 : (headL name data ++ tail).take (6 + data.length) = headL name data := by
    rw [List.take_append_of_le_length (by rw [headL_len _ _ h4]; omega), List.take_of_length_le (by rw [headL_len _ _ h4]; omega)]
  have hdr : (headL name data ++ tail).drop (6 + data.length) = tail := by
    rw [List.drop_append_of_le_length (by rw [headL_len _ _ h4]; omega), List.drop_of_length_le (by rw [headL_len _ _ h4]; omega)]; rfl
  unfold measureL
  rw [if_neg, he, hl, if_neg (by omega), htk2, hdr]
  · rw [show 6 + data.length + 2 = 8 + data.length by omega]
  · intro h
    rcases h with h | h
    · rw [hl] at h; omega
    · rw [htk, hn] at h; cases h

set_option maxRecDepth 100000 in
theorem measure_seal (name data rest : List UInt8) (hn : nameB name = true) (hd : data.length ≤ 65535) : measureL (sealL (headL name data) ++ rest) = (8 + data.length, 0) := by
  unfold sealL
  rw [List.append_assoc, measure_head name data _ hn hd (by unfold pairL; simp), if_pos]
  unfold pairL; simp

set_option maxRecDepth 100000 in
theorem first_seal (name data rest : List UInt8) (hn : nameB name = true) (hd : data.length ≤ 65535) : firstL (sealL (headL name data) ++ rest) = (name, data, rest, 0) := by
  have h4 := nameB_len hn
  have hL := headL_len name data h4
  have hS : (sealL (headL name data)).length = 8 + data.length := by rw [sealL_len, hL]; omega
  unfold firstL
  rw [measure_seal name data rest hn hd]
  simp only [if_true]
  have e1 : (sealL (headL name data) ++ rest).take 4 = name := by
    rw [List.take_append_of_le_length (by omega)]
    unfold sealL
    rw [List.take_append_of_le_length (by omega), headL_take4 _ _ h4]
  have e2 : (((sealL (headL name data) ++ rest).take (8 + data.length)).drop 6).take (8 + data.length - 8) = data := by
    have e0 : (sealL (headL name data) ++ rest).take (8 + data.length) = sealL (headL name data) := by
      rw [List.take_append_of_le_length (by omega), List.take_of_length_le (by omega)]
    rw [e0]
    unfold sealL
    rw [List.drop_append_of_le_length (by omega), headL_drop6 _ _ h4, List.take_append_of_le_length (by omega), List.take_of_length_le (by omega)]
  have e3 : (sealL (headL name data) ++ rest).drop (8 + data.length) = rest := by
    rw [List.drop_append_of_le_length (by omega), List.drop_of_length_le (by omega)]; rfl
  rw [e1, e2, e3]

set_option maxRecDepth 100000 in
theorem chunkBytes_ok (name data : List UInt8) (hn : nameB name = true) (hd : data.length ≤ 65535) : chunkBytes name data = (sealL (headL name data), 0) := by
  unfold chunkBytes; rw [if_neg (by rw [hn]; decide), if_neg (by omega)]
set_option maxRecDepth 100000 in
theorem chunkBytes_no (name data : List UInt8) (hn : nameB name = false) : chunkBytes name data = ([], 3) := by
  unfold chunkBytes; rw [if_pos hn]

end Fb
end Go.Proofs.YtceabiodelfdoaaGreatDoor
/- Walk of the law TopChunk. -/
namespace Go.Proofs.YtceabiodelfdoaaGreatDoor
open Go.RowKit

set_option maxRecDepth 100000 in
theorem bytes_at (n d : ByteArray) (w : World) (hn : n.size ≤ 9223372036854775807) (hd : d.size ≤ 9223372036854775807) (x v : Value) (l : List UInt8) (c : Nat)
    (HZ : Hid (Fb.chunkBytes n.data.toList d.data.toList = (l, c))) (HX : Hid (str l = x)) (HV : Hid (errV c = v)) :
    Calls Tryz.prog 13 #[.agg #[.string n, .string d]] w fun e w' => e = .returned (.tuple #[x, v]) ∧ Below w.heap.size w w' := by
  have h := bytes_any n d w hn hd
  rw [HZ.out] at h
  rw [← HX.out, ← HV.out]
  exact h
set_option maxRecDepth 100000 in
theorem first_at (s : ByteArray) (w : World) (hs : s.size ≤ 1000000) (v : Value) (HF : Hid (firstV s.data.toList = v)) :
    Calls Tryz.prog 14 #[.string s] w fun e w' => e = .returned v ∧ Below w.heap.size w w' := by
  rw [← HF.out]; exact first_any s w hs

end Go.Proofs.YtceabiodelfdoaaGreatDoor
