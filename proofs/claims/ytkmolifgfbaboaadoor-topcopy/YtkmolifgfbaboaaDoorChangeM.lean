/- For the walk of blend.change. -/
import Derived.Test.YtkmolifgfbaboaaDoorBlendA
import Derived.Test.YtkmolifgfbaboaaDoorGridM
namespace Go.Proofs.YtkmolifgfbaboaaDoor
open Go.RowKit

theorem check_zero (W H : Int) (ps : List (Int × Int)) (h : checkL W H ps = 0) : ∃ PW PH : Nat, W = (PW : Int) ∧ H = (PH : Int) ∧ 1 ≤ PW ∧ PW ≤ 8 ∧ 1 ≤ PH ∧ PH ≤ 8 ∧ ps.length = PW * PH ∧ ∀ k, k < ps.length → pixOk (ps.getD k (0, 0)) := by
  unfold checkL at h
  split at h
  · simp at h
  · rename_i hs
    split at h
    · simp at h
    · rename_i hl
      split at h
      · rename_i ha
        have hw : sideB W = true := by cases e : sideB W <;> simp_all
        have hh : sideB H = true := by cases e : sideB H <;> simp_all
        unfold sideB at hw hh
        simp only [Bool.and_eq_true, decide_eq_true_eq] at hw hh
        refine ⟨W.toNat, H.toNat, by omega, by omega, by omega, by omega, by omega, by omega, ?_, fun k hk => ?_⟩
        · have e1 : ((W.toNat : Nat) : Int) = W := by omega
          have e2 : ((H.toNat : Nat) : Int) = H := by omega
          have : ((W.toNat * H.toNat : Nat) : Int) = W * H := by rw [Int.natCast_mul, e1, e2]
          omega
        · have hm : ps.getD k (0, 0) ∈ ps := by
            rw [List.getD_eq_getElem?_getD, List.getElem?_eq_getElem hk]; exact List.getElem_mem hk
          have := List.all_eq_true.1 ha _ hm
          unfold okPix shadeB at this
          simp only [Bool.and_eq_true, decide_eq_true_eq] at this
          unfold pixOk
          omega
      · simp at h

theorem check_nil (W H : Int) (v : Value) (ps : List (Int × Int)) (w : World) (hps : ps.length ≤ 1000000000) (HR : Hid (RdP w v ps)) (HC : Hid (checkL W H ps = 0)) :
    Calls Tryd.prog 24 #[.agg #[.int .i64 W, .int .i64 H, v]] w fun e w' => e = .returned .nilIface ∧ Below w.heap.size w w' := check_any W H v ps w hps HR 0 HC

/-- what holds on the road: the pictures p and q, the rect, what is under way -/
structure Gch (w : World) (vp vq vo : Value) (PW PH QW QH : Nat) (bo : Nat) (ps qs cur : List (Int × Int)) (w' : World) : Prop where
  tp : Three w' w.heap.size (.int .i64 (PW : Int)) (.int .i64 (PH : Int)) vp
  tq : Three w' (w.heap.size + 1) (.int .i64 (QW : Int)) (.int .i64 (QH : Int)) vq
  tr : Three w' (w.heap.size + 1 + 1 + 1) (.int .i64 0) (.int .i64 0) (.slice none 0 0)
  to : Three w' bo (.int .i64 (PW : Int)) (.int .i64 (PH : Int)) vo
  rp : RdP w' vp ps
  rq : RdP w' vq qs
  bel : Below w.heap.size w w'
  own : w'.ownsRow (w.heap.size + 4) 33 2 vo cur.length (pixCells cur)

theorem Gch.on {w : World} {vp vq vo : Value} {PW PH QW QH bo : Nat} {ps qs cur : List (Int × Int)} {w1 w2 : World} (h : Gch w vp vq vo PW PH QW QH bo ps qs cur w1) (hb : Below w1.heap.size w1 w2) : Gch w vp vq vo PW PH QW QH bo ps qs cur w2 :=
  ⟨h.tp.on hb, h.tq.on hb, h.tr.on hb, h.to.on hb, h.rp.on hb, h.rq.on hb, h.bel.trans (hb.mono h.bel.size), own_on2 h.own hb⟩
theorem Gch.drew {w : World} {vp vq vo : Value} {PW PH QW QH bo : Nat} {ps qs cur : List (Int × Int)} {w1 : World} (h : Gch w vp vq vo PW PH QW QH bo ps qs cur w1) : Gch w vp vq vo PW PH QW QH bo ps qs cur w1.drew :=
  ⟨h.tp.drew, h.tq.drew, h.tr.drew, h.to.drew, h.rp, h.rq, h.bel.drew, h.own.drew⟩

theorem rd_some {w : World} {a : Option Addr} {n cap : Nat} {ps : List (Int × Int)} (h : RdP w (.slice a n cap) ps) (hne : ps ≠ []) : ∃ g off, a = some ⟨g, off, none⟩ ∧ g < w.heap.size ∧ ∀ w' : World, Below w.heap.size w w' → ∀ j, j < ps.length → w'.cell? ⟨g, off + j * 2, none⟩ = some (.int .i64 (ps.getD j (0, 0)).1) ∧ w'.cell? ⟨g, off + j * 2 + 1, none⟩ = some (.int .i64 (ps.getD j (0, 0)).2) := by
  obtain ⟨a', c', hv, hl, hc, hh⟩ := h
  obtain ⟨g, off, ha, hg, hcell⟩ := hh hne
  simp only [Value.slice.injEq] at hv
  refine ⟨g, off, hv.1.trans ha, hg, fun w' hb j hj => ?_⟩
  rw [hb.cell (p := ⟨g, off + j * 2, none⟩) hg, hb.cell (p := ⟨g, off + j * 2 + 1, none⟩) hg]
  exact hcell j hj
theorem hid_of {p : Prop} (h : p) : Hid p := h
theorem Gch.store {w : World} {vp vq : Value} {g np co PW PH QW QH bo K : Nat} {ps qs cur : List (Int × Int)} {w1 : World} (h : Gch w vp vq (.slice (some ⟨g, 0, none⟩) np co) PW PH QW QH bo ps qs cur w1) (hp : RdP w vp ps) (hq : RdP w vq qs) (hg : w.heap.size + 4 ≤ g) (hgb : g < bo) (hl : cur.length = np) (v a : Int) :
    Gch w vp vq (.slice (some ⟨g, 0, none⟩) np co) PW PH QW QH bo ps qs (cur.set K (v, a)) ((w1.setCell ⟨g, K * 2, none⟩ (.int .i64 v)).setCell ⟨g, K * 2 + 1, none⟩ (.int .i64 a)) := by
  have hb : Below w.heap.size w ((w1.setCell ⟨g, K * 2, none⟩ (.int .i64 v)).setCell ⟨g, K * 2 + 1, none⟩ (.int .i64 a)) := (h.bel.setCell (show w.heap.size ≤ g by omega) _).setCell (show w.heap.size ≤ g by omega) _
  refine ⟨(h.tp.other (by omega)).other (by omega), (h.tq.other (by omega)).other (by omega), (h.tr.other (by omega)).other (by omega), (h.to.other (by omega)).other (by omega), hp.on hb, hq.on hb, hb, ?_⟩
  have ho := h.own
  rw [hl] at ho
  have h1 := (ho.stored (K * 2) (.int .i64 v)).1
  have h2 := (h1.stored (K * 2 + 1) (.int .i64 a)).1
  rw [pixCells_set] at h2
  rw [List.length_set, hl]
  exact h2

end Go.Proofs.YtkmolifgfbaboaaDoor
