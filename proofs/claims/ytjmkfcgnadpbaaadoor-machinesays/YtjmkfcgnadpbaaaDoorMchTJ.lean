/- What is played may be. -/
import Derived.Test.YtjmkfcgnadpbaaaDoorM9
namespace Go.Proofs.YtjmkfcgnadpbaaaDoor
open Go.RowKit Go.Maps

/-- a frame that may be -/
structure FrG (f : Pf) : Prop where
  pic : checkL f.W f.H f.ps = 0
  low : 0 ≤ f.d
  high : f.d ≤ 99
theorem op_wait (q : Pq) (h : opC q = 0) (hk : q.kind = 11) : 0 ≤ q.a ∧ q.a ≤ 99 := by
  obtain ⟨_, _, h3, _⟩ := op_shape q h ⟨11, [87, 65, 73, 84], false, 1, 0, 99, false⟩ (by rw [hk]; rfl)
  simp [inB, nums4] at h3
  omega
theorem tellF_good {qs : List Pq} {s : Ms} (hb : Book qs) (hw : Way qs s) (d : Int) (h1 : 0 ≤ d) (h2 : d ≤ 99) : FrG (tellF qs s d) := by
  have h0 : 0 < qs.length := by have := hb.two; omega
  obtain ⟨ha, hb'⟩ := op_head _ (hb.ok 0 h0) ((hb.head 0 h0).2 rfl)
  obtain ⟨W, hWe⟩ : ∃ W : Nat, (qs.getD 0 pq0).a = (W : Int) := ⟨_, (Int.toNat_of_nonneg (by omega)).symm⟩
  obtain ⟨H, hHe⟩ : ∃ H : Nat, (qs.getD 0 pq0).b = (H : Int) := ⟨_, (Int.toNat_of_nonneg (by omega)).symm⟩
  refine ⟨?_, h1, h2⟩
  unfold tellF
  simp only
  rw [hWe, hHe, Int.toNat_natCast, Int.toNat_natCast]
  exact seen_check W H s.bv s.ba (by omega) (by omega) (by omega) (by omega) hw.bv.1 hw.bv.2 hw.ba.1 hw.ba.2 s.obs hw.obs.ok
theorem doM_frs {qs : List Pq} {s s' : Ms} {q : Pq} (h : doM qs s q = .inl s') : s'.frs = s.frs ∨ (q.kind = 11 ∧ s'.frs = s.frs ++ [tellF qs s q.a]) := by
  unfold doM at h
  split at h
  · obtain rfl := Sum.inl.inj h; exact .inl rfl
  split at h
  · obtain rfl := Sum.inl.inj h; exact .inl rfl
  split at h
  · rename_i hk
    split at h
    · cases h
    · obtain rfl := Sum.inl.inj h; exact .inr ⟨hk, rfl⟩
  split at h
  · split at h
    · obtain rfl := Sum.inl.inj h; exact .inl rfl
    · obtain rfl := Sum.inl.inj h; exact .inl rfl
  split at h
  · split at h
    · obtain rfl := Sum.inl.inj h; exact .inl rfl
    · obtain rfl := Sum.inl.inj h; exact .inl rfl
  split at h
  · obtain rfl := Sum.inl.inj h; exact .inl rfl
  split at h
  · obtain rfl := Sum.inl.inj h; exact .inl rfl
  split at h
  · obtain rfl := Sum.inl.inj h; exact .inl rfl
  · cases h
theorem stepM_frs {qs : List Pq} {s s' : Ms} (hb : Book qs) (hw : Way qs s) (h : stepM qs s = .inl s') (hf : ∀ f ∈ s.frs, FrG f) : ∀ f ∈ s'.frs, FrG f := by
  by_cases hd : doneM qs s
  · unfold stepM at h
    rw [if_pos hd] at h
    obtain rfl := Sum.inl.inj h
    exact hf
  · rw [stepM_not hd] at h
    cases hr : doM qs s (qs.getD s.pc pq0) with
    | inr c => rw [hr] at h; cases h
    | inl t =>
      rw [hr] at h
      obtain rfl := Sum.inl.inj h
      intro f hm
      simp only at hm
      rcases doM_frs hr with e | ⟨hk, e⟩
      · rw [e] at hm; exact hf f hm
      · rw [e] at hm
        rcases List.mem_append.1 hm with hm | hm
        · exact hf f hm
        · simp at hm
          subst hm
          obtain ⟨a1, a2⟩ := op_wait _ (hb.ok _ hw.on) hk
          exact tellF_good hb hw _ a1 a2
theorem playM_frs {qs : List Pq} (hb : Book qs) : ∀ (f : Nat) (s : Ms) (fs : List Pf), Way qs s → (∀ f ∈ s.frs, FrG f) → playM qs f s = .inl fs → fs.length ≤ 40 ∧ ∀ f ∈ fs, FrG f := by
  intro f
  induction f with
  | zero =>
    intro s fs hw hf h
    unfold playM at h
    split at h
    · obtain rfl := Sum.inl.inj h; exact ⟨hw.frs, hf⟩
    · cases h
  | succ f ih =>
    intro s fs hw hf h
    unfold playM at h
    split at h
    · obtain rfl := Sum.inl.inj h; exact ⟨hw.frs, hf⟩
    · cases hr : stepM qs s with
      | inl s' => rw [hr] at h; exact ih s' fs (stepM_way hb hw hr) (stepM_frs hb hw hr hf) h
      | inr c => rw [hr] at h; cases h
theorem playR_frs {qs : List Pq} {fuel : Int} {fs : List Pf} (h : playR qs fuel = .inl fs) : fs.length ≤ 40 ∧ ∀ f ∈ fs, FrG f := by
  unfold playR at h
  split at h
  · cases h
  · rename_i hc
    have hb : Book qs := book_of (by omega)
    exact playM_frs hb _ ms0 fs (way0 hb) (by simp [ms0]) h
theorem playR_err {qs : List Pq} {fuel : Int} {c : Nat} (h : playR qs fuel = .inr c) (hc : bkC qs = 0) : playM qs (min fuel 400).toNat ms0 = .inr c := by
  unfold playR at h
  rw [if_neg (by omega)] at h
  exact h
theorem playR_ok {qs : List Pq} {fuel : Int} (hc : bkC qs = 0) : playR qs fuel = playM qs (min fuel 400).toNat ms0 := by
  unfold playR
  rw [if_neg (by omega)]
theorem frs_px {fs : List Pf} (h : ∀ f ∈ fs, FrG f) : ∀ f ∈ fs, f.ps.length ≤ 1000 := fun f hf => by have := check_len _ _ _ (h f hf).pic; omega
/-- more fuel -/
theorem playR_more {qs : List Pq} {fuel more : Int} (hc : bkC qs = 0) (hm : 0 ≤ more) (h : playR qs fuel ≠ .inr 8) : playR qs (fuel + more) = playR qs fuel := by
  rw [playR_ok hc, playR_ok hc] at *
  have e : (min (fuel + more) 400).toNat = (min fuel 400).toNat + ((min (fuel + more) 400).toNat - (min fuel 400).toNat) := by omega
  rw [e]
  exact play_more qs _ _ ms0 h
/-- what Play answers, in one form: frames (none, where there is an error), and an error's number -/
def PlayO (r : List Pf ⊕ Nat) (c : Nat) (fs : List Pf) : Prop := (c = 0 ∧ r = .inl fs) ∨ (c ≠ 0 ∧ r = .inr c ∧ fs = [])
theorem rdF_nil (w : World) : RdF w (.slice none 0 0) [] := ⟨none, 0, rfl, by simp, by omega, fun h => absurd rfl h⟩
theorem play_out {B : Nat} {r : List Pf ⊕ Nat} {w : World} {e : Ending} {w' : World} (h : PlayP B r w e w') :
    Below w.heap.size w w' ∧ ∃ a n k c fs, e = .returned (.tuple #[.slice a n k, errV c]) ∧ RdF w' (.slice a n k) fs ∧ PlayO r c fs := by
  obtain ⟨hb, hh⟩ := h
  refine ⟨hb, ?_⟩
  rcases hh with ⟨v', fv, he, ho, hr⟩ | ⟨c, hc, hr, he⟩
  · obtain ⟨a, k, hv⟩ := own_any ho.1
    subst hv
    exact ⟨a, fv.length, k, 0, fv.map Prod.fst, he, ho.rd, .inl ⟨rfl, hr⟩⟩
  · exact ⟨none, 0, 0, c, [], he, rdF_nil _, .inr ⟨hc, hr, rfl⟩⟩
theorem PlayO.same {r : List Pf ⊕ Nat} {c c' : Nat} {fs fs' : List Pf} (h : PlayO r c fs) (h' : PlayO r c' fs') : c' = c ∧ fs' = fs := by
  rcases h with ⟨h1, h2⟩ | ⟨h1, h2, h3⟩ <;> rcases h' with ⟨g1, g2⟩ | ⟨g1, g2, g3⟩
  · rw [h2] at g2; exact ⟨by omega, (Sum.inl.inj g2).symm⟩
  · rw [h2] at g2; cases g2
  · rw [h2] at g2; cases g2
  · rw [h2] at g2; exact ⟨(Sum.inr.inj g2).symm, by rw [g3, h3]⟩
theorem PlayO.good {qs : List Pq} {fuel : Int} {c : Nat} {fs : List Pf} (h : PlayO (playR qs fuel) c fs) : fs.length ≤ 40 ∧ ∀ f ∈ fs, FrG f := by
  rcases h with ⟨_, h⟩ | ⟨_, _, h⟩
  · exact playR_frs h
  · subst h; exact ⟨by simp, by simp⟩
end Go.Proofs.YtjmkfcgnadpbaaaDoor
