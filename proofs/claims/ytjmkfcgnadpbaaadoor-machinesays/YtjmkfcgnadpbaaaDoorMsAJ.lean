/- Two machines in one memory: the program's and the reference's. -/
import Derived.Test.YtjmkfcgnadpbaaaDoorM9
import Derived.Test.YtjmkfcgnadpbaaaDoorRpAJ
import Derived.Test.YtjmkfcgnadpbaaaDoorMchTJ
import Derived.Test.YtjmkfcgnadpbaaaDoorMchLJ
namespace Go.Proofs.YtjmkfcgnadpbaaaDoor
open Go.RowKit

theorem only_box {w w' : World} {b : Nat} {xs : List Value} (h : World.ownsRow w b 44 8 (.slice (some ⟨b, 0, none⟩) 1 1) 1 xs) (hf : Foot [b] [b] w w') : Only [44] w w' := by
  obtain ⟨cur, fz, h1, _⟩ := box_cells h
  refine ⟨hf.size, fun g o hg hn => ?_⟩
  have hne : g ≠ b := by
    rintro rfl
    rw [h1] at hg
    obtain rfl := Option.some.inj hg
    exact hn _ _ _ rfl (by simp)
  rw [hf.block g (lt_of_some hg) (by simpa using hne)]
  exact hg
/-- the program's machine stays where the reference's is written -/
theorem Mac.beside {w w' : World} {B b : Nat} {F : List Nat} {qs : List Pq} {s : Ms} (h : Mac w B b F qs s) (ho : Only [44] w w') : Mac w' B b F qs s := by
  obtain ⟨vo, bm, vr, vb, vk, vf, h1, ⟨⟨qv, a1, a2⟩, b1, ⟨D, c1, c2⟩, d1, ⟨ov, e1, e2⟩, ⟨kv, f1, f2⟩, ⟨fv, g1, g2⟩⟩, h3⟩ := h
  exact ⟨vo, bm, vr, vb, vk, vf, own_only h1 ho (by decide), ⟨⟨qv, a1.only ho (by decide) (by decide), a2⟩, b1, ⟨D, map_only c1 ho, c2⟩, own_only d1 ho (by decide), ⟨ov, e1.only ho (by decide) (by decide), e2⟩, ⟨kv, f1.only ho (by decide) (by decide), f2⟩, ⟨fv, g1.only ho (by decide) (by decide), g2⟩⟩, h3⟩
/-- the reference's machine stays where the program's is written -/
theorem notin_more {w : World} {B : Nat} {e : TypeId} {z : Nat} {v : Value} {n : Nat} {xs : List Value} {Fb Fc : Nat → Prop} (h : w.ownsRow B e z v n xs) (hn : NotIn Fb v) (hc : ∀ x, x < w.heap.size → ¬ Fb x → ¬ Fc x) : NotIn Fc v := fun g hg => hc g (h.lt g hg).2 (hn g hg)
theorem RMac.beside {w w' : World} {b : Nat} {F F' : List Nat} {qs : List Pq} {s : Ms} (h : RMac w b (fun x => x = b ∨ x ∈ F) qs s) (hb : b ∉ F) (hf : Foot F F' w w') :
    RMac w' b (fun x => x = b ∨ x ∈ F') qs s ∧ b ∉ F' := by
  obtain ⟨vl, vt, vo, vs, vf, h1, ⟨⟨W0, a1, a2, a3⟩, a4, a5⟩, h2, h3, h4, fv, h5, h6, h7, h8⟩ := h
  have hbw : b < w.heap.size := a5 b (.inl rfl)
  have hb' : b ∉ F' := fun hm => by
    rcases hf.new b hm with h | h
    · exact hb h
    · omega
  have hst : Stay (fun x => x = b ∨ x ∈ F) w w' := stay_of hf (fun x hx => .inr hx)
  have hmore : ∀ x, x < w.heap.size → ¬ (x = b ∨ x ∈ F) → ¬ ((x = b ∨ x ∈ F) ∨ (x = b ∨ x ∈ F')) := by
    rintro x hx hn (h | h | h)
    · exact hn h
    · exact hn (.inl h)
    · rcases hf.new x h with h | h
      · exact hn (.inr h)
      · omega
  have hst2 : Stay (fun x => (x = b ∨ x ∈ F) ∨ (x = b ∨ x ∈ F')) w w' := ⟨hst.os, hst.tape, hst.output, hst.size, fun k hk hn => hst.block k hk (fun h => hn (.inl h))⟩
  have hlow : ∀ x, (x = b ∨ x ∈ F') → W0.heap.size ≤ x := by
    rintro x (rfl | h)
    · exact a3 x (.inl rfl)
    · rcases hf.new x h with h | h
      · exact a3 x (.inr h)
      · have := a2.size; omega
  have hbel : Below W0.heap.size w w' := ⟨hst.os, hst.tape, hst.output, hst.size, fun k hk => hst.block k (Nat.lt_of_lt_of_le hk a2.size) (fun hx => by have := a3 k hx; omega)⟩
  have hbox : World.ownsRow w' b 44 8 (.slice (some ⟨b, 0, none⟩) 1 1) 1 [vl, .int .i64 (s.pc : Int), vt, vo, vs, .int .i64 s.bv, .int .i64 s.ba, vf] := by
    refine ⟨h1.1, ?_⟩
    rcases h1.2 with h | ⟨g, cap, cur, e1, e2, e3, e4⟩
    · exact .inl h
    · have e1' := e1
      simp only [Value.slice.injEq, Option.some.injEq, Addr.mk.injEq, and_true, true_and] at e1'
      obtain ⟨rfl, rfl⟩ := e1'
      exact .inr ⟨b, 1, cur, e1, e2, by rw [hf.block b hbw hb]; exact e3, e4⟩
  have hm2 : ∀ x, x < w'.heap.size → ¬ ((x = b ∨ x ∈ F) ∨ (x = b ∨ x ∈ F')) → ¬ (x = b ∨ x ∈ F') := fun x _ hn h => hn (.inr h)
  have hm1 : ∀ x, x < w.heap.size → ¬ (x = b ∨ x ∈ F) → ¬ (x = b ∨ x ∈ F') := fun x hx hn h => hmore x hx hn (.inr h)
  exact ⟨⟨vl, vt, vo, vs, vf, hbox, ⟨⟨W0, a1, a2.trans hbel, hlow⟩, .inl rfl, fun x hx => by
      rcases hx with rfl | h
      · exact Nat.lt_of_lt_of_le hbw hst.size
      · rcases hf.new x h with h | h
        · exact Nat.lt_of_lt_of_le (a5 x (.inr h)) hst.size
        · exact h.2⟩, ⟨foot_own h2.1 h2.2 hst, notin_more h2.1 h2.2 hm1⟩,
    rdO_more (foot_rdO (rdO_more h3 hmore) hst2) hm2, rdO_more (foot_rdO (rdO_more h4 hmore) hst2) hm2, fv, foot_fr h5 h7 h8 hst, h6, notin_more h5.1 h7 hm1, fun q hq => notin_more (h5.2 q hq) (h8 q hq) hm1⟩, hb'⟩
theorem rmac_begin (w w1 : World) (v : Value) (qs : List Pq) (F : List Nat) (HR : RdQ w v qs) (hb : Below w.heap.size w w1) (hF : ∀ x ∈ F, w.heap.size ≤ x ∧ x < w1.heap.size) :
    RMac (w1.alloc (.cells #[v, .int .i64 0, .slice none 0 0, .slice none 0 0, .slice none 0 0, .int .i64 0, .int .i64 0, .slice none 0 0] 44)) w1.heap.size (fun x => x = w1.heap.size ∨ x ∈ F) qs ms0 := by
  have hbx : Below w1.heap.size w1 (w1.alloc (.cells #[v, .int .i64 0, .slice none 0 0, .slice none 0 0, .slice none 0 0, .int .i64 0, .int .i64 0, .slice none 0 0] 44)) := (Below.refl _ _).alloc (Nat.le_refl _) _
  have nn : ∀ Fb : Nat → Prop, NotIn Fb (.slice none 0 0) := fun Fb g hg => by simp [Value.ownBlock] at hg
  refine ⟨v, .slice none 0 0, .slice none 0 0, .slice none 0 0, .slice none 0 0, own_box [v, .int .i64 0, .slice none 0 0, .slice none 0 0, .slice none 0 0, .int .i64 0, .int .i64 0, .slice none 0 0] 8 (Nat.le_refl _) rfl,
    ⟨⟨w, HR, hb.trans (hbx.mono hb.size), ?_⟩, .inl rfl, ?_⟩, ⟨World.ownsRow_nil _ _ _ _, nn _⟩, @Go.Proofs.YtjmkfcgnadpbaaaDoor.NI.rdO_nil ⟨⟨_⟩⟩ _, @Go.Proofs.YtjmkfcgnadpbaaaDoor.NI.rdO_nil ⟨⟨_⟩⟩ _, [], ⟨World.ownsRow_nil _ _ _ _, by simp⟩, rfl, nn _, by simp⟩
  · rintro x (rfl | h)
    · exact hb.size
    · exact (hF x h).1
  · rintro x (rfl | h)
    · simp
    · have := (hF x h).2; simp; omega
end Go.Proofs.YtjmkfcgnadpbaaaDoor
