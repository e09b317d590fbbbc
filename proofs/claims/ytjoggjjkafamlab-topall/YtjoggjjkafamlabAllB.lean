/- Walk of the law TopAll. -/
import Derived.Test.YtjoggjjkafamlabAllA
import Derived.Test.YtjoggjjkafamlabNum
namespace Go.Proofs.Ytjoggjjkafamlab
open Go.RowKit

/-- a list of texts that came in: nil, or a row of texts -/
def IsStrs (w : World) (a : Option Addr) (len cap : Nat) (ss : List ByteArray) : Prop :=
  (a = none ∧ len = 0 ∧ cap = 0 ∧ ss = []) ∨
  ∃ x : Addr, a = some x ∧ len ≤ cap ∧ cap ≤ maxLen ∧ ss.length = cap ∧ (∀ i, i < ss.length → w.cell? (x.add i) = some (.string (ss.getD i ByteArray.empty))) ∧ (∀ s ∈ ss, s.size ≤ maxLen)

theorem strs_at {w : World} {a : Option Addr} {len cap : Nat} {ss : List ByteArray} (H : IsStrs w a len cap ss) (h : 0 < len) :
    ∃ b off, a = some ⟨b, off, none⟩ ∧ b < w.heap.size ∧ (∀ i, i < len → w.cell? ⟨b, off + i, none⟩ = some (.string (ss.getD i ByteArray.empty))) ∧ (∀ i, (ss.getD i ByteArray.empty).size ≤ 9223372036854775807) := by
  rcases H with ⟨_, h0, _⟩ | ⟨x, ha, hl, hm, hs, hc, hz⟩
  · omega
  · obtain ⟨b, off, spot⟩ := x
    have h0 := hc 0 (by omega)
    have hspot : spot = none := by simpa [Addr.add] using World.cell?_spot h0
    subst hspot
    have hlt := World.block_lt_of_cell? w _ h0
    have hadd : ∀ i, (⟨b, off, none⟩ : Addr).add i = ⟨b, off + i, none⟩ := fun i => by unfold Addr.add; split <;> simp_all
    refine ⟨b, off, ha, by simpa [Addr.add] using hlt, fun i hi => by rw [← hadd]; exact hc i (by omega), fun i => ?_⟩
    rw [List.getD_eq_getElem?_getD]
    by_cases hi : i < ss.length
    · rw [List.getElem?_eq_getElem hi]
      have := hz ss[i] (List.getElem_mem hi)
      unfold maxLen at this
      simp only [Option.getD_some]
      omega
    · rw [List.getElem?_eq_none (by omega)]; decide

theorem strs_len {w : World} {a : Option Addr} {len cap : Nat} {ss : List ByteArray} (H : IsStrs w a len cap ss) : len ≤ 9223372036854775807 := by
  rcases H with ⟨_, h0, _⟩ | ⟨x, ha, hl, hm, _⟩
  · omega
  · unfold maxLen at hm; omega

theorem catL_snoc (cs : List (List UInt8 × List UInt8)) (n d : List UInt8) : Fb.catL (cs ++ [(n, d)]) = Fb.catL cs ++ Fb.sealL (Fb.headL n d) := by
  induction cs with
  | nil => simp [Fb.catL]
  | cons p r ih => obtain ⟨a, b⟩ := p; simp [Fb.catL, ih]

theorem cells_at (cs : List (List UInt8 × List UInt8)) (n d : List UInt8) : ∀ k, cs[k]? = some (n, d) → (chunkCells cs)[k * 2]? = some (str n) ∧ (chunkCells cs)[k * 2 + 1]? = some (str d) := by
  induction cs with
  | nil => intro k h; simp at h
  | cons p r ih =>
    intro k h
    obtain ⟨a, b⟩ := p
    cases k with
    | zero => simp at h; obtain ⟨rfl, rfl⟩ := h; simp [chunkCells]
    | succ k =>
      simp at h
      have := ih k h
      rw [show (k + 1) * 2 = k * 2 + 2 by omega]
      simpa [chunkCells] using this

theorem cat_len (cs : List (List UInt8 × List UInt8)) (h : ∀ p ∈ cs, Fb.nameB p.1 = true ∧ p.2.length ≤ 100) : (Fb.catL cs).length ≤ 108 * cs.length := by
  induction cs with
  | nil => simp [Fb.catL]
  | cons p r ih =>
    obtain ⟨a, b⟩ := p
    have h1 := ih (fun q hq => h q (by simp [hq]))
    have h2 := h (a, b) (by simp)
    simp only [Fb.catL, List.length_append, List.length_cons]
    rw [Fb.sealL_len, Fb.headL_len _ _ (Fb.nameB_len h2.1)]
    have := h2.2
    simp only at this
    omega

theorem bytes_at (n d : ByteArray) (w : World) (hn : n.size ≤ 9223372036854775807) (hd : d.size ≤ 9223372036854775807) (x v : Value) (l : List UInt8) (c : Nat)
    (HZ : Hid (Fb.chunkBytes n.data.toList d.data.toList = (l, c))) (HX : Hid (str l = x)) (HV : Hid (errV c = v)) :
    Calls Try.prog 7 #[.agg #[.string n, .string d]] w fun e w' => e = .returned (.tuple #[x, v]) ∧ Below w.heap.size w w' := by
  have h := bytes_any n d w hn hd
  rw [HZ.out] at h
  rw [← HX.out, ← HV.out]
  exact h

theorem all_at (s : ByteArray) (most : Int) (w : World) (hs : s.size ≤ 1000000) (hm0 : -9223372036854775808 ≤ most) (hm1 : most ≤ 9223372036854775807) (cs : List (List UInt8 × List UInt8)) (c : Nat) (u : Value) (HZ : Hid (Fb.allOf most s.data.toList 0 = (cs, c))) (HU : Hid (errV c = u)) :
    Calls Try.prog 10 #[.string s, .int .i64 most] w fun e w' => ∃ v, e = .returned (.tuple #[v, u]) ∧ w'.ownsRow w.heap.size 29 2 v cs.length (chunkCells cs) ∧ Below w.heap.size w w' := by
  rw [← HU.out]; exact all_any s most w hs hm0 hm1 cs c HZ

set_option maxHeartbeats 4000000 in
set_option maxRecDepth 100000 in
theorem topAll_early (a0 a1 : Option Addr) (len0 cap0 len1 cap1 : Nat) (w : World) (hl0 : len0 ≤ 9223372036854775807) (_hl1 : len1 ≤ 9223372036854775807) (h : 20 < len0 ∨ len1 < len0) :
    Calls Try.prog 4 #[.slice a0 len0 cap0, .slice a1 len1 cap1] w fun e w' => e = .returned (.bool true) ∧ Below w.heap.size w w' := by
  go_enter Try.func4, Try.ntmps4
  go_wp2_with fail
  refine (bytes_at ⟨#[87, 65, 73, 84]⟩ ⟨#[]⟩ _ (by decide) (by decide) (.string ⟨#[87, 65, 73, 84, 0, 0, 59, 142]⟩) .nilIface [87, 65, 73, 84, 0, 0, 59, 142] 0 (by unfold Hid; decide) rfl rfl).mono ?_
  rintro e w1 ⟨rfl, hb1⟩
  go_wp2_with fail
  refine (all_at ⟨#[]⟩ 0 _ (by decide) (by decide) (by decide) [] 0 .nilIface (by unfold Hid; decide) rfl).mono ?_
  rintro e w2 ⟨v2, rfl, hown2, hb2⟩
  obtain ⟨ao2, cp2, hv2⟩ := own_any hown2
  simp only [List.length_nil] at hv2
  have hbb2 := bt hb1 hb2
  clear hown2 hb1 hb2
  by_cases hbig : 20 < len0
  · rw [hv2]
    go_wp2_with fail
    go_ret
    exact ⟨rfl, hbb2⟩
  · have hfew : len1 < len0 := by omega
    rw [hv2]
    go_wp2_with fail
    go_ret
    exact ⟨rfl, hbb2⟩

set_option maxHeartbeats 4000000 in
set_option maxRecDepth 100000 in
theorem topAll_none (a0 a1 : Option Addr) (cap0 len1 cap1 : Nat) (w : World) (_hl1 : len1 ≤ 9223372036854775807) :
    Calls Try.prog 4 #[.slice a0 0 cap0, .slice a1 len1 cap1] w fun e w' => e = .returned (.bool true) ∧ Below w.heap.size w w' := by
  go_enter Try.func4, Try.ntmps4
  go_wp2_with fail
  refine (bytes_at ⟨#[87, 65, 73, 84]⟩ ⟨#[]⟩ _ (by decide) (by decide) (.string ⟨#[87, 65, 73, 84, 0, 0, 59, 142]⟩) .nilIface [87, 65, 73, 84, 0, 0, 59, 142] 0 (by unfold Hid; decide) rfl rfl).mono ?_
  rintro e w1 ⟨rfl, hb1⟩
  go_wp2_with fail
  refine (all_at ⟨#[]⟩ 0 _ (by decide) (by decide) (by decide) [] 0 .nilIface (by unfold Hid; decide) rfl).mono ?_
  rintro e w2 ⟨v2, rfl, hown2, hb2⟩
  obtain ⟨ao2, cp2, hv2⟩ := own_any hown2
  simp only [List.length_nil] at hv2
  have hbb2 := bt hb1 hb2
  clear hown2 hb1 hb2
  rw [hv2]
  go_wp2_with fail
  refine wp_loop_rounds 1 ?_
  rw [rounds_succ]
  go_wp2_with fail
  refine (all_at ⟨#[]⟩ 0 _ (by decide) (by decide) (by decide) [] 0 .nilIface (by unfold Hid; decide) rfl).mono ?_
  rintro e w3 ⟨v3, rfl, hown3, hb3⟩
  obtain ⟨ao3, cp3, hv3⟩ := own_any hown3
  simp only [List.length_nil] at hv3
  rw [hv3]
  have hbb3 : Below w.heap.size w w3 := hbb2.trans (hb3.mono hbb2.size)
  clear hown3 hb3
  go_wp2_with fail
  refine wp_loop_rounds 1 ?_
  rw [rounds_succ]
  go_wp2_with fail
  refine (all_at ⟨#[]⟩ _ _ (by decide) (by decide) (by decide) [] 0 .nilIface (by unfold Hid; decide) rfl).mono ?_
  rintro e w4 ⟨v4, rfl, hown4, hb4⟩
  go_wp2_with fail
  go_ret
  exact ⟨rfl, hbb3.trans (hb4.mono hbb3.size)⟩

end Go.Proofs.Ytjoggjjkafamlab
