/- Walk of the law TopBook. -- s1 -/
import Derived.Test.YtceabiodelfdoaaGreatDoorM14
namespace Go.Proofs.YtceabiodelfdoaaGreatDoor
open Go.RowKit Go.Maps

theorem numE_any (c : Nat) (w : World) : Calls Tryz.prog 8 #[errV c] w fun e w' => e = .returned (.int .i64 (c : Int)) ∧ w = w' := by
  cases c with
  | zero => exact number_zero w
  | succ c => rw [err_v (by omega)]; exact number_some _ w
theorem px_light {qs : List Pq} (h : LightQs qs) : ∀ j, j < qs.length → (qs.getD j pq0).ps.length ≤ 1000 := fun j hj => by have := h.pix j hj; omega
theorem bp_ok {qs : List Pq} {sb : ByteArray} (h : bkC qs = 0) (hs : bookB qs = sb.data.toList) (hl : sb.size ≤ 4000) : bookOf sb.data.toList = (qs, 0) := by
  rw [← hs]
  exact bookOf_book qs h (by rw [hs]; simpa using hl)
theorem bp_long {sb : ByteArray} (hl : 4000 < sb.size) : bookOf sb.data.toList = ([], 2) := bookOf_long _ (by simpa using hl)
theorem bookB_max {qs : List Pq} (HBK : Book qs) : (bookB qs).length ≤ 60480 := by
  have hl : ∀ q ∈ qs, (cB q).length ≤ 1008 := fun q hq => by
    obtain ⟨s, hs⟩ := opC_some (mem_ok HBK q hq)
    exact (cB_of _ s hs (opC_ok (mem_ok HBK q hq) hs)).2.2
  have h1 := bookB_len qs hl
  have h2 := HBK.few
  omega
/-- book.Parse of bytes whose ops are known -/
theorem parse_at (sb : ByteArray) (qs : List Pq) (c : Nat) (v : Value) (w : World) (HS : Hid (Shapes w)) (h1 : 0 < w.heap.size) (hs : sb.size ≤ 1000000) (HZ : Hid (bookOf sb.data.toList = (qs, c))) (HV : Hid (errV c = v)) :
    Calls Tryz.prog 10 #[.string sb] w fun e w' => ∃ x, e = .returned (.tuple #[x, v]) ∧ RdQ w' x qs ∧ Below w.heap.size w w' := by
  have h := bookParse_any sb w HS h1 hs
  rw [HZ.out] at h
  rw [← HV.out]
  exact h

set_option maxHeartbeats 8000000 in
set_option maxRecDepth 100000 in
theorem topBook_any (v : Value) (qs : List Pq) (w : World) (HS : Hid (Shapes w)) (h1 : 0 < w.heap.size) (HR : Hid (RdQ w v qs)) :
    Calls Tryz.prog 3 #[v] w fun e w' => e = .returned (.bool true) ∧ Below w.heap.size w w' := by
  obtain ⟨a, cap, hv, _, _⟩ := HR.out.shape
  obtain ⟨n, HN⟩ : ∃ n, Hid (qs.length = n) := ⟨_, (rfl : _ = _)⟩
  rw [HN.out] at hv
  subst hv
  go_enter Tryz.func3, Tryz.ntmps3
  go_wp2_with fail
  refine (works_any _ HS h1).mono ?_
  rintro e w1 ⟨rfl, hb1⟩
  have HR1 : Hid (RdQ w1 (.slice a n cap) qs) := HR.out.on hb1
  go_wp2_with fail
  refine (lightOps_any _ qs _ HR1).mono ?_
  rintro e w2 ⟨b, rfl, hl, hb2⟩
  have hbb2 := hb1.trans (hb2.mono hb1.size)
  clear hb2 HR1
  cases b with
  | false =>
    go_wp2_with fail
    go_ret
    exact ⟨rfl, hbb2⟩
  | true =>
  have HLQ := hid_of3 (hl rfl)
  clear hl
  have hqn : qs.length ≤ 1000 := by have := HLQ.out.few; omega
  obtain ⟨c, HC⟩ : ∃ c, Hid (bkC qs = c) := ⟨_, (rfl : _ = _)⟩
  have hbb := bookBytes_any (.slice a n cap) qs w2 (HS.out.on h1 hbb2) (Nat.lt_of_lt_of_le h1 hbb2.size) (HR.out.on hbb2) (px_light HLQ.out) hqn
  have HBB := hid_of3 hbb
  clear hbb
  go_wp2_with fail
  refine HBB.out.mono ?_
  clear HBB
  rintro e w3 ⟨hb3, he⟩
  have hbb3 := hbb2.trans (hb3.mono hbb2.size)
  clear hb3 hbb2
  have HS3 : Hid (Shapes w3) := HS.out.on h1 hbb3
  have h13 := Nat.lt_of_lt_of_le h1 hbb3.size
  have HR3 : Hid (RdQ w3 (.slice a n cap) qs) := HR.out.on hbb3
  rcases he with ⟨c', hc', hne, rfl⟩ | ⟨hz, rfl⟩
  · obtain rfl : c = c' := HC.out.symm.trans hc'
    obtain ⟨ev, HEV⟩ : ∃ ev, Hid (errV c = ev) := ⟨_, (rfl : _ = _)⟩
    have hck := bookCheck_any (.slice a n cap) qs w3 HS3 h13 HR3 (px_light HLQ.out) hqn c HC
    have HNU := hid_of3 (fun W => numE_any c W)
    rw [err_v hne] at hck HNU ⊢
    have HCK := hid_of3 hck
    clear hck hc' hne hqn
    go_wp2_with fail
    refine HCK.out.mono ?_
    rintro e w4 ⟨rfl, hb4⟩
    have hbb4 := hbb3.trans (hb4.mono hbb3.size)
    clear hb4 HCK
    go_wp2_with fail
    refine (HNU.out _).mono ?_
    rintro e w5 ⟨rfl, rfl⟩
    go_wp2_with fail
    refine (HNU.out _).mono ?_
    rintro e w6 ⟨rfl, rfl⟩
    go_wp2_with fail
    go_ret
    exact ⟨rfl, hbb4⟩
  · have HBK : Hid (Book qs) := book_of hz
    obtain ⟨sb, HSB⟩ := bytes_of (bookB qs)
    rw [HSB.out, str_self]
    have hsz : sb.size ≤ 60480 := by rw [size_of HSB]; exact bookB_max HBK.out
    have HZ := hid_of3 hz
    clear hz hqn
    by_cases h4 : 4000 < sb.size
    · have h4i : (4000 : Int) < (sb.size : Int) := by omega
      have HP := hid_of3 (parse_at sb [] 2 (.iface 62 (.int .i64 2)) w3 HS3 h13 (by omega) (bp_long h4) rfl)
      go_wp2_with fail
      refine HP.out.mono ?_
      rintro e w4 ⟨x, rfl, hx, hb4⟩
      have hbb4 := hbb3.trans (hb4.mono hbb3.size)
      clear hb4 HP hx
      go_wp2_with fail
      refine (number_some 2 _).mono ?_
      rintro e w5 ⟨rfl, rfl⟩
      go_wp2_with fail
      go_ret
      exact ⟨rfl, hbb4⟩
    · have h4i : ¬ (4000 : Int) < (sb.size : Int) := by omega
      have HP := hid_of3 (parse_at sb qs 0 .nilIface w3 HS3 h13 (by omega) (bp_ok HZ.out HSB.out (by omega)) rfl)
      go_wp2_with fail
      refine HP.out.mono ?_
      rintro e w4 ⟨x, rfl, hx, hb4⟩
      have hbb4 := hbb3.trans (hb4.mono hbb3.size)
      have HX := hid_of3 hx
      have HR4 : Hid (RdQ w4 (.slice a n cap) qs) := HR.out.on hbb4
      clear hb4 HP hx
      go_wp2_with fail
      refine (sameOps_any _ _ qs _ HX HR4 (px_light HLQ.out)).mono ?_
      rintro e w5 ⟨rfl, hb5⟩
      have hbb5 := hbb4.trans (hb5.mono hbb4.size)
      clear hb5
      go_wp2_with fail
      go_ret
      exact ⟨rfl, hbb5⟩
end Go.Proofs.YtceabiodelfdoaaGreatDoor
