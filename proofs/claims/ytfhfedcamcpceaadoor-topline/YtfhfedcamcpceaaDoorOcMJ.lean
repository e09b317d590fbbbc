/- An op's bytes. -- s1 -/
import Derived.Test.YtfhfedcamcpceaaDoorM4
import Derived.Test.YtfhfedcamcpceaaDoorByAJ
import Derived.Test.YtfhfedcamcpceaaDoorPicGJ
namespace Go.Proofs.YtfhfedcamcpceaaDoor
open Go.RowKit

def idB (id : Int) (b : Bool) : List UInt8 := if b then [UInt8.ofNat id.toNat] else []
def nB (n : Int) : List UInt8 := [UInt8.ofNat ((n + 128) % 256).toNat, UInt8.ofNat ((n + 128) / 256).toNat]
def nsB (ns : List Int) : List UInt8 := ns.flatMap nB
def pcB (q : Pq) (b : Bool) : List UInt8 := if b then picBytes q.pw.toNat q.ph.toNat q.ps else []
/-- an op's bytes, of its kind's parts -/
def opB (q : Pq) (id : Bool) (nums : Nat) (pic : Bool) : List UInt8 := idB q.id id ++ nsB ((nums4 q).take nums) ++ pcB q pic
theorem idB_len (id : Int) (b : Bool) : (idB id b).length ≤ 1 := by unfold idB; split <;> simp
theorem nsB_len : ∀ (ns : List Int), (nsB ns).length = 2 * ns.length := by
  intro ns
  induction ns with
  | nil => rfl
  | cons a r ih =>
    have e : nsB (a :: r) = nB a ++ nsB r := rfl
    rw [e, List.length_append, ih]
    simp [nB]; omega
theorem nsB_snoc (ns : List Int) (n : Int) : nsB (ns ++ [n]) = nsB ns ++ nB n := by simp [nsB]
theorem take_nsB {ns : List Int} {k : Nat} (h : k < ns.length) {n : Int} (hn : ns.getD k 0 = n) : nsB (ns.take (k + 1)) = nsB (ns.take k) ++ nB n := by
  rw [List.take_succ_eq_append_getElem h, nsB_snoc]
  rw [List.getD_eq_getElem?_getD, List.getElem?_eq_getElem h] at hn
  rw [← hn]; rfl

/-- what an op that may be is -/
structure OpOk (q : Pq) (s : Shp) : Prop where
  id : s.id = true → 1 ≤ q.id ∧ q.id ≤ 6
  num : ∀ n ∈ (nums4 q).take s.nums, -20 ≤ n ∧ n ≤ 255
  pic : s.pic = true → checkL q.pw q.ph q.ps = 0
  non : ∀ n ∈ forL q s, n = 0
theorem shps_bounds : ∀ s ∈ shps, -20 ≤ s.low ∧ s.high ≤ 255 := by
  intro s hs
  simp only [shps, List.mem_cons, List.not_mem_nil, or_false] at hs
  rcases hs with rfl | rfl | rfl | rfl | rfl | rfl | rfl | rfl | rfl | rfl | rfl | rfl | rfl | rfl | rfl | rfl <;> exact ⟨by decide, by decide⟩
theorem opC_ok {q : Pq} {s : Shp} (h : opC q = 0) (hk : kindAt q.kind shps = some s) : OpOk q s := by
  unfold opC at h
  rw [hk] at h
  simp only at h
  split at h
  · omega
  rename_i h1
  split at h
  · omega
  rename_i h2
  have h1 : ¬ ∃ n ∈ forL q s, n ≠ 0 := by simpa using h1
  have h2a : ¬ (s.id && (decide (q.id < 1) || decide (6 < q.id))) = true := fun h => h2 (.inl h)
  have h2b : ¬ inB q s = false := fun h => h2 (.inr h)
  refine ⟨fun hi => ?_, fun n hn => ?_, fun hp => ?_, fun n hn => ?_⟩
  · rw [hi] at h2a
    simp at h2a
    omega
  · have hb := shps_bounds s (kindAt_mem _ _ _ hk).1
    unfold inB at h2b
    split at h2b
    · have hr : rectC q.a q.b q.c q.d = 0 := by simpa using h2b
      have hr := (rectC_zero _ _ _ _).1 hr
      have hn4 := List.mem_of_mem_take hn
      simp only [nums4, List.mem_cons, List.not_mem_nil, or_false] at hn4
      rcases hn4 with rfl | rfl | rfl | rfl <;> omega
    · have h3 : ¬ ∃ n ∈ (nums4 q).take s.nums, n < s.low ∨ s.high < n := by simpa using h2b
      have : ¬ (n < s.low ∨ s.high < n) := fun h => h3 ⟨n, hn, h⟩
      omega
  · rw [if_pos hp] at h
    exact h
  · by_cases h0 : n = 0
    · exact h0
    · exact absurd ⟨n, hn, h0⟩ h1
theorem opC_some {q : Pq} (h : opC q = 0) : ∃ s, kindAt q.kind shps = some s := by
  unfold opC at h
  split at h
  · omega
  · exact ⟨_, by assumption⟩
theorem u8_toNat (n : Nat) (h : n < 256) : (UInt8.ofNat n).toNat = n := by rw [UInt8.toNat_ofNat']; omega
theorem two_parts (x : Int) (h1 : -20 ≤ x) (h2 : x ≤ 255) : ∃ N n0 n1 : Nat, n0 < 256 ∧ n1 < 256 ∧ IntKind.i64.wrap (x + 128) = (N : Int) ∧ (N : Int) % 256 = (n0 : Int) ∧ wrap64 ((N : Int) / 256) = (n1 : Int) ∧ (n1 : Int) % 256 = (n1 : Int) ∧ nB x = [UInt8.ofNat n0, UInt8.ofNat n1] := by
  obtain ⟨N, hN⟩ : ∃ N : Nat, x + 128 = (N : Int) := ⟨(x + 128).toNat, by omega⟩
  have hN2 : N ≤ 383 := by omega
  refine ⟨N, N % 256, N / 256, by omega, by omega, ?_, by omega, ?_, by omega, ?_⟩
  · rw [hN, IntKind.wrap_i64]; omega
  · rw [show (N : Int) / 256 = ((N / 256 : Nat) : Int) by omega]; unfold wrap64; omega
  · unfold nB
    rw [hN, show ((N : Int) % 256).toNat = N % 256 by omega, show ((N : Int) / 256).toNat = N / 256 by omega]
end Go.Proofs.YtfhfedcamcpceaaDoor
