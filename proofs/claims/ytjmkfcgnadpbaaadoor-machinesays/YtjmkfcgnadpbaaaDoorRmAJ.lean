/- The reference's machine, as it lies in memory. -/
import Derived.Test.YtjmkfcgnadpbaaaDoorM9
import Derived.Test.YtjmkfcgnadpbaaaDoorNiD6J
import Derived.Test.YtjmkfcgnadpbaaaDoorRefVJ
import Derived.Test.YtjmkfcgnadpbaaaDoorRefE2J
namespace Go.Proofs.YtjmkfcgnadpbaaaDoor
open Go.RowKit

structure Eight (W : World) (b : Nat) (x0 x1 x2 x3 x4 x5 x6 x7 : Value) : Prop where
  c0 : W.cell? ⟨b, 0, none⟩ = some x0
  c1 : W.cell? ⟨b, 1, none⟩ = some x1
  c2 : W.cell? ⟨b, 2, none⟩ = some x2
  c3 : W.cell? ⟨b, 3, none⟩ = some x3
  c4 : W.cell? ⟨b, 4, none⟩ = some x4
  c5 : W.cell? ⟨b, 5, none⟩ = some x5
  c6 : W.cell? ⟨b, 6, none⟩ = some x6
  c7 : W.cell? ⟨b, 7, none⟩ = some x7
  f0 : W.frozen? ⟨b, 0, none⟩ = false
  f1 : W.frozen? ⟨b, 1, none⟩ = false
  f2 : W.frozen? ⟨b, 2, none⟩ = false
  f3 : W.frozen? ⟨b, 3, none⟩ = false
  f4 : W.frozen? ⟨b, 4, none⟩ = false
  f5 : W.frozen? ⟨b, 5, none⟩ = false
  f6 : W.frozen? ⟨b, 6, none⟩ = false
  f7 : W.frozen? ⟨b, 7, none⟩ = false
  lt : b < W.heap.size
theorem eight_start (w : World) (x0 x1 x2 x3 x4 x5 x6 x7 : Value) (T : TypeId) (b : Nat) (hb : b = w.heap.size) : Eight (w.alloc (.cells #[x0, x1, x2, x3, x4, x5, x6, x7] T)) b x0 x1 x2 x3 x4 x5 x6 x7 := by
  subst hb; exact ⟨by simp, by simp, by simp, by simp, by simp, by simp, by simp, by simp, by simp, by simp, by simp, by simp, by simp, by simp, by simp, by simp, by simp⟩
theorem Eight.onB {W W' : World} {b : Nat} {x0 x1 x2 x3 x4 x5 x6 x7 : Value} {B : Nat} (h : Eight W b x0 x1 x2 x3 x4 x5 x6 x7) (hb : Below B W W') (hlt : b < B) : Eight W' b x0 x1 x2 x3 x4 x5 x6 x7 :=
  ⟨(hb.cell (p := ⟨b, 0, none⟩) hlt).trans h.c0, (hb.cell (p := ⟨b, 1, none⟩) hlt).trans h.c1, (hb.cell (p := ⟨b, 2, none⟩) hlt).trans h.c2, (hb.cell (p := ⟨b, 3, none⟩) hlt).trans h.c3, (hb.cell (p := ⟨b, 4, none⟩) hlt).trans h.c4, (hb.cell (p := ⟨b, 5, none⟩) hlt).trans h.c5, (hb.cell (p := ⟨b, 6, none⟩) hlt).trans h.c6, (hb.cell (p := ⟨b, 7, none⟩) hlt).trans h.c7, (hb.frozen (p := ⟨b, 0, none⟩) hlt).trans h.f0, (hb.frozen (p := ⟨b, 1, none⟩) hlt).trans h.f1, (hb.frozen (p := ⟨b, 2, none⟩) hlt).trans h.f2, (hb.frozen (p := ⟨b, 3, none⟩) hlt).trans h.f3, (hb.frozen (p := ⟨b, 4, none⟩) hlt).trans h.f4, (hb.frozen (p := ⟨b, 5, none⟩) hlt).trans h.f5, (hb.frozen (p := ⟨b, 6, none⟩) hlt).trans h.f6, (hb.frozen (p := ⟨b, 7, none⟩) hlt).trans h.f7, Nat.lt_of_lt_of_le h.lt hb.size⟩
theorem Eight.on {W W' : World} {b : Nat} {x0 x1 x2 x3 x4 x5 x6 x7 : Value} (h : Eight W b x0 x1 x2 x3 x4 x5 x6 x7) (hb : Below W.heap.size W W') : Eight W' b x0 x1 x2 x3 x4 x5 x6 x7 := h.onB hb h.lt
theorem Eight.drew {W : World} {b : Nat} {x0 x1 x2 x3 x4 x5 x6 x7 : Value} (h : Eight W b x0 x1 x2 x3 x4 x5 x6 x7) : Eight W.drew b x0 x1 x2 x3 x4 x5 x6 x7 := ⟨h.c0, h.c1, h.c2, h.c3, h.c4, h.c5, h.c6, h.c7, h.f0, h.f1, h.f2, h.f3, h.f4, h.f5, h.f6, h.f7, h.lt⟩
theorem Eight.alloc {W : World} {b : Nat} {x0 x1 x2 x3 x4 x5 x6 x7 : Value} (h : Eight W b x0 x1 x2 x3 x4 x5 x6 x7) (o : Obj) : Eight (W.alloc o) b x0 x1 x2 x3 x4 x5 x6 x7 := h.on ((Below.refl _ _).alloc (Nat.le_refl _) o)

/-- rows that lie in none of some blocks -/
def RdOn (Fb : Nat → Prop) (w : World) (v : Value) (os : List Po) : Prop := @Go.Proofs.YtjmkfcgnadpbaaaDoor.NI.RdO ⟨⟨Fb⟩⟩ w v os
def RdPn (Fb : Nat → Prop) (w : World) (v : Value) (ps : List (Int × Int)) : Prop := @Go.Proofs.YtjmkfcgnadpbaaaDoor.NI.RdP ⟨⟨Fb⟩⟩ w v ps
def NotIn (Fb : Nat → Prop) (v : Value) : Prop := ∀ g, v.ownBlock = some g → ¬ Fb g
/-- what the machine's fields lead to -/
structure RmR (w : World) (b : Nat) (Fb : Nat → Prop) (vl vt vo vs vf : Value) (qs : List Pq) (op : List (Nat × Nat)) (ob kp : List Po) (fr : List Pf) : Prop where
  ops : (∃ W0, RdQ W0 vl qs ∧ Below W0.heap.size W0 w ∧ ∀ x, Fb x → W0.heap.size ≤ x) ∧ Fb b ∧ ∀ x, Fb x → x < w.heap.size
  trn : w.ownsRow (b + 1) 72 2 vt op.length (rndCells op) ∧ NotIn Fb vt
  obs : RdOn Fb w vo ob
  kep : RdOn Fb w vs kp
  frs : ∃ fv, OwnFr w (b + 1) vf fv ∧ fv.map Prod.fst = fr ∧ NotIn Fb vf ∧ ∀ q ∈ fv, NotIn Fb q.2
def RMac (w : World) (b : Nat) (Fb : Nat → Prop) (qs : List Pq) (s : Ms) : Prop :=
  ∃ vl vt vo vs vf, (World.ownsRow w b 44 8 (.slice (some ⟨b, 0, none⟩) 1 1) 1 [vl, .int .i64 (s.pc : Int), vt, vo, vs, .int .i64 s.bv, .int .i64 s.ba, vf]) ∧ RmR w b Fb vl vt vo vs vf qs s.opn s.obs s.kept s.frs
theorem box_eight {w : World} {b : Nat} {x0 x1 x2 x3 x4 x5 x6 x7 : Value} (h : (World.ownsRow w b 44 8 (.slice (some ⟨b, 0, none⟩) 1 1) 1 [x0, x1, x2, x3, x4, x5, x6, x7])) : Eight w b x0 x1 x2 x3 x4 x5 x6 x7 := by
  have hc := fun k (hk : k < 8) => h.cellAt k (by omega)
  rcases h.2 with ⟨h0, _⟩ | ⟨g, cap, cur, hv, hB, hg, _, _, hs, ht⟩
  · simp at h0
  · simp only [Value.slice.injEq, Option.some.injEq, Addr.mk.injEq, and_true, true_and] at hv
    obtain ⟨rfl, rfl⟩ := hv
    have hf : ∀ k, w.frozen? ⟨b, k, none⟩ = false := fun k => by simp [World.frozen?, hg]
    exact ⟨hc 0 (by omega), hc 1 (by omega), hc 2 (by omega), hc 3 (by omega), hc 4 (by omega), hc 5 (by omega), hc 6 (by omega), hc 7 (by omega), hf 0, hf 1, hf 2, hf 3, hf 4, hf 5, hf 6, hf 7, lt_of_some hg⟩
theorem box_cells {w : World} {b : Nat} {xs : List Value} (h : (World.ownsRow w b 44 8 (.slice (some ⟨b, 0, none⟩) 1 1) 1 xs)) : ∃ cur fz, w.heap[b]? = some (.cells cur 44 fz) ∧ cur.size = 8 := by
  rcases h.2 with ⟨h0, _⟩ | ⟨g, cap, cur, hv, hB, hg, _, _, hs, ht⟩
  · simp at h0
  · simp only [Value.slice.injEq, Option.some.injEq, Addr.mk.injEq, and_true, true_and] at hv
    obtain ⟨rfl, rfl⟩ := hv
    exact ⟨cur, _, hg, by omega⟩
theorem box_set {w : World} {b : Nat} {xs : List Value} (h : (World.ownsRow w b 44 8 (.slice (some ⟨b, 0, none⟩) 1 1) 1 xs)) (k : Nat) (v : Value) :
    (World.ownsRow (w.setCell ⟨b, k, none⟩ v) b 44 8 (.slice (some ⟨b, 0, none⟩) 1 1) 1 (xs.set k v)) ∧ Foot [b] [b] w (w.setCell ⟨b, k, none⟩ v) := by
  obtain ⟨h1, h2⟩ := h.stored k v
  exact ⟨h1, Foot.grown h2 (fun g hg => by simp at hg; subst hg; simp)⟩
/-- all blocks stay but some -/
structure Stay (Fb : Nat → Prop) (w w' : World) : Prop where
  os : w'.os = w.os
  tape : w'.tape = w.tape
  output : w'.output = w.output
  size : w.heap.size ≤ w'.heap.size
  block : ∀ k, k < w.heap.size → ¬ Fb k → w'.heap[k]? = w.heap[k]?
theorem Stay.cell {Fb : Nat → Prop} {w w' : World} (h : Stay Fb w w') {g o : Nat} (hg : g < w.heap.size) (hn : ¬ Fb g) : w'.cell? ⟨g, o, none⟩ = w.cell? ⟨g, o, none⟩ := World.cell?_of_block (h.block g hg hn)
theorem stay_of {F F' : List Nat} {Fb : Nat → Prop} {w w' : World} (h : Foot F F' w w') (hF : ∀ x ∈ F, Fb x) : Stay Fb w w' := ⟨h.os, h.tape, h.output, h.size, fun k hk hn => h.block k hk (fun hm => hn (hF k hm))⟩
theorem stay_box {Fb : Nat → Prop} {b : Nat} {w w' : World} (h : Foot [b] [b] w w') (hb : Fb b) : Stay Fb w w' := stay_of h (by intro x hx; simp at hx; subst hx; exact hb)
theorem own_notin {w : World} {B : Nat} {e : TypeId} {z : Nat} {v : Value} {n : Nat} {xs : List Value} {Fb : Nat → Prop} (h : w.ownsRow B e z v n xs) (hF : ∀ x, Fb x → x < B) : NotIn Fb v := fun g hg hx => by
  have h1 := (h.lt g hg).1
  have h2 := hF g hx
  omega
theorem foot_own {w w' : World} {b : Nat} {Fb : Nat → Prop} {e : TypeId} {z : Nat} {v : Value} {n : Nat} {xs : List Value} (h : w.ownsRow b e z v n xs) (hn : NotIn Fb v) (hf : Stay Fb w w') : w'.ownsRow b e z v n xs := by
  refine ⟨h.1, ?_⟩
  rcases h.2 with h | ⟨g, cap, cur, h1, h2, h3, h4⟩
  · exact .inl h
  · exact .inr ⟨g, cap, cur, h1, h2, by rw [hf.block g (lt_of_some h3) (hn g (by rw [h1]; rfl))]; exact h3, h4⟩
theorem foot_fr {w w' : World} {b : Nat} {Fb : Nat → Prop} {v : Value} {qs : List (Pf × Value)} (h : OwnFr w b v qs) (hn : NotIn Fb v) (hq : ∀ q ∈ qs, NotIn Fb q.2) (hf : Stay Fb w w') : OwnFr w' b v qs :=
  ⟨foot_own h.1 hn hf, fun q hq' => foot_own (h.2 q hq') (hq q hq') hf⟩
theorem foot_rdP {w w' : World} {Fb : Nat → Prop} {v : Value} {ps : List (Int × Int)} (h : RdPn Fb w v ps) (hf : Stay Fb w w') : RdPn Fb w' v ps := by
  obtain ⟨a, cap, hv, hl, hc, hh⟩ := h
  refine ⟨a, cap, hv, hl, hc, fun hne => ?_⟩
  obtain ⟨g, off, ha, hg, hcell⟩ := hh hne
  refine ⟨g, off, ha, ⟨Nat.lt_of_lt_of_le hg.1 hf.size, hg.2⟩, fun j hj => ?_⟩
  rw [hf.cell hg.1 hg.2, hf.cell hg.1 hg.2]
  exact hcell j hj
theorem foot_rdO {w w' : World} {Fb : Nat → Prop} {v : Value} {os : List Po} (h : RdOn Fb w v os) (hf : Stay Fb w w') : RdOn Fb w' v os := by
  obtain ⟨a, cap, hv, hl, hc, hh⟩ := h
  refine ⟨a, cap, hv, hl, hc, fun hne => ?_⟩
  obtain ⟨g, off, ha, hg, hcell⟩ := hh hne
  refine ⟨g, off, ha, ⟨Nat.lt_of_lt_of_le hg.1 hf.size, hg.2⟩, fun j hj => ?_⟩
  obtain ⟨u, ⟨c0, c1, c2, c3, c4, c5, c6, c7, c8, c9, c10⟩, hp⟩ := hcell j hj
  have hk : ∀ x, w'.cell? ⟨g, x, none⟩ = w.cell? ⟨g, x, none⟩ := fun x => hf.cell hg.1 hg.2
  exact ⟨u, ⟨(hk _).trans c0, (hk _).trans c1, (hk _).trans c2, (hk _).trans c3, (hk _).trans c4, (hk _).trans c5, (hk _).trans c6, (hk _).trans c7, (hk _).trans c8, (hk _).trans c9, (hk _).trans c10⟩, foot_rdP hp hf⟩
/-- more blocks are forbidden, all of them new -/
theorem rdO_more {w : World} {Fb Fc : Nat → Prop} {v : Value} {os : List Po} (h : RdOn Fb w v os) (hc : ∀ x, x < w.heap.size → ¬ Fb x → ¬ Fc x) : RdOn Fc w v os := by
  obtain ⟨a, cap, hv, hl, hcp, hh⟩ := h
  refine ⟨a, cap, hv, hl, hcp, fun hne => ?_⟩
  obtain ⟨g, off, ha, hg, hcell⟩ := hh hne
  refine ⟨g, off, ha, ⟨hg.1, hc g hg.1 hg.2⟩, fun j hj => ?_⟩
  obtain ⟨u, h0, a2, cap2, hv2, hl2, hc2, hh2⟩ := hcell j hj
  refine ⟨u, h0, a2, cap2, hv2, hl2, hc2, fun hne2 => ?_⟩
  obtain ⟨g2, off2, ha2, hg2, hcell2⟩ := hh2 hne2
  exact ⟨g2, off2, ha2, ⟨hg2.1, hc g2 hg2.1 hg2.2⟩, hcell2⟩
theorem RmR.stay {w w' : World} {b : Nat} {Fb : Nat → Prop} {vl vt vo vs vf : Value} {qs : List Pq} {op : List (Nat × Nat)} {ob kp : List Po} {fr : List Pf} (h : RmR w b Fb vl vt vo vs vf qs op ob kp fr) (hf : Stay Fb w w') : RmR w' b Fb vl vt vo vs vf qs op ob kp fr := by
  obtain ⟨⟨⟨W0, a1, a2, a3⟩, a4, a5⟩, h2, h3, h4, fv, h5, h6, h7, h8⟩ := h
  have hb : Below W0.heap.size w w' := ⟨hf.os, hf.tape, hf.output, hf.size, fun k hk => hf.block k (Nat.lt_of_lt_of_le hk a2.size) (fun hx => by have := a3 k hx; omega)⟩
  exact ⟨⟨⟨W0, a1, a2.trans hb, a3⟩, a4, fun x hx => Nat.lt_of_lt_of_le (a5 x hx) hf.size⟩, ⟨foot_own h2.1 h2.2 hf, h2.2⟩, foot_rdO h3 hf, foot_rdO h4 hf, fv, foot_fr h5 h7 h8 hf, h6, h7, h8⟩
theorem RmR.foot {w w' : World} {b : Nat} {Fb : Nat → Prop} {vl vt vo vs vf : Value} {qs : List Pq} {op : List (Nat × Nat)} {ob kp : List Po} {fr : List Pf} (h : RmR w b Fb vl vt vo vs vf qs op ob kp fr) (hf : Foot [b] [b] w w') : RmR w' b Fb vl vt vo vs vf qs op ob kp fr := h.stay (stay_box hf h.ops.2.1)
theorem RMac.on {w w' : World} {b : Nat} {Fb : Nat → Prop} {qs : List Pq} {s : Ms} (h : RMac w b Fb qs s) (hb : Below w.heap.size w w') : RMac w' b Fb qs s := by
  obtain ⟨vl, vt, vo, vs, vf, h1, h2⟩ := h
  exact ⟨vl, vt, vo, vs, vf, own_on2 h1 hb, h2.foot (Foot.below hb _)⟩
/-- what a step answers, and what it leaves -/
def RMacP (b : Nat) (Fb : Nat → Prop) (qs : List Pq) (s : Ms) (r : Ms ⊕ Nat) (w : World) (e : Ending) (w' : World) : Prop :=
  e = .returned (.int .i64 ((numM r : Nat) : Int)) ∧ RMac w' b Fb qs (nxtM s r) ∧ Foot [b] [b] w w'
end Go.Proofs.YtjmkfcgnadpbaaaDoor
