/- Walks: script.Number, script.read. -- s1 -/
import Derived.Test.YtfhfedcamcpceaaDoorM4
import Derived.Test.YtfhfedcamcpceaaDoorLibSJ
import Derived.Maps.AppendAt
namespace Go.Proofs.YtfhfedcamcpceaaDoor
open Go.RowKit Go.Lib

theorem atoi_bounds {l : List UInt8} {n : Int} (h : atoiAll l = .ok n) : -9223372036854775808 ≤ n ∧ n ≤ 9223372036854775807 := by
  unfold atoiAll at h
  split at h
  · cases h
  · simp only at h
    split at h
    · cases h
    · cases h
    · split at h
      · cases h
      · split at h
        · cases h
        · simp only [NumEnd.ok.injEq] at h
          split at h <;> omega
theorem text_of (l : List UInt8) : ∃ t : ByteArray, Hid ((⟨l.toArray⟩ : ByteArray) = t ∧ l = t.data.toList) := ⟨⟨l.toArray⟩, rfl, by simp⟩
theorem data_inj {a b : ByteArray} (h : a.data.toList = b.data.toList) : a = b := by
  cases a; cases b
  simp only [ByteArray.mk.injEq]
  exact Array.toList_inj.1 h
theorem txt_ne {a b : ByteArray} (h : ¬ a = b) : (a.toList == b.toList) = false := by
  rw [beq_eq_false_iff_ne]
  intro e
  rw [ByteArray.toList_eq, ByteArray.toList_eq] at e
  exact h (WideShapes.bytes_inj e)
set_option maxHeartbeats 4000000 in
set_option maxRecDepth 100000 in
theorem numberS_any (s : ByteArray) (lo hi : Int) (w : World) (HE : Hid (LibE w)) (hs : s.size ≤ 281474976710656) (r : Option Int) (HR : Hid (Sc.numL lo hi s.data.toList = r)) :
    Calls Tryd.prog 70 #[.string s, .int .i64 lo, .int .i64 hi] w (fun e w' => e = .returned (.tuple #[.int .i64 (r.getD 0), .bool r.isSome]) ∧ Below w.heap.size w w') := by
  by_cases hh : ∃ n, atoiAll s.data.toList = .ok n
  · obtain ⟨n, hn⟩ := hh
    obtain ⟨b0, b1⟩ := atoi_bounds hn
    have HR2 : Hid ((if itoa n = s.data.toList ∧ lo ≤ n ∧ n ≤ hi then some n else none) = r) := by
      unfold Hid; rw [← HR.out]; unfold Sc.numL; rw [hn]
    have HA := hid_of3 (atoi_ok s n w hs hn)
    obtain ⟨t, HT⟩ := text_of (itoa n)
    have HI := hid_of3 (fun W (h : Hid (LibE W)) => itoa_lib n W h b0 b1)
    rw [HT.out.1] at HI
    rw [HT.out.2] at HR2
    clear hn HT HR b0 b1
    go_enter Tryd.func70, Tryd.ntmps70
    go_wp2_with fail
    refine HA.out.mono ?_
    rintro e w1 ⟨rfl, hb1⟩
    go_wp2_with fail
    refine (HI.out w1 (HE.out.on hb1)).mono ?_
    rintro e w2 ⟨rfl, hb2⟩
    have hbb2 := hb1.trans (hb2.mono hb1.size)
    clear HA HI hb1 hb2
    by_cases he : t = s
    · subst he
      by_cases h1 : n < lo
      · have hr : r = none := by have := HR2.out; rw [if_neg (by omega)] at this; exact this.symm
        subst hr
        go_wp2_with fail
        refine bodyPost_ret (v := .tuple #[.int .i64 0, .bool false]) (by simp [results, Tryd.results70, go_sem]) rfl ⟨rfl, hbb2⟩
      · by_cases h2 : hi < n
        · have hr : r = none := by have := HR2.out; rw [if_neg (by omega)] at this; exact this.symm
          subst hr
          go_wp2_with fail
          refine bodyPost_ret (v := .tuple #[.int .i64 0, .bool false]) (by simp [results, Tryd.results70, go_sem]) rfl ⟨rfl, hbb2⟩
        · have hr : r = some n := by have := HR2.out; rw [if_pos ⟨rfl, by omega, by omega⟩] at this; exact this.symm
          subst hr
          go_wp2_with fail
          refine bodyPost_ret (v := .tuple #[.int .i64 n, .bool true]) (by simp [results, Tryd.results70, go_sem]) rfl ⟨rfl, hbb2⟩
    · have hr : r = none := by have := HR2.out; rw [if_neg (fun h => he (data_inj h.1))] at this; exact this.symm
      subst hr
      have hne : (t.toList == s.toList) = false := txt_ne he
      go_wp2_with fail
      refine bodyPost_ret (v := .tuple #[.int .i64 0, .bool false]) (by simp [results, Tryd.results70, go_sem]) rfl ⟨rfl, hbb2⟩
  · have hr : r = none := by
      rw [← HR.out]; unfold Sc.numL
      split
      · rename_i n hn; exact absurd ⟨n, hn⟩ hh
      · rfl
    subst hr
    have HA := hid_of3 (atoi_no s w HE hs (fun n hn => hh ⟨n, hn⟩))
    clear hh HR
    go_enter Tryd.func70, Tryd.ntmps70
    go_wp2_with fail
    refine HA.out.mono ?_
    rintro e w1 ⟨n, p, rfl, hb1⟩
    go_wp2_with fail
    refine bodyPost_ret (v := .tuple #[.int .i64 0, .bool false]) (by simp [results, Tryd.results70, go_sem]) rfl ⟨rfl, hb1⟩
end Go.Proofs.YtfhfedcamcpceaaDoor
