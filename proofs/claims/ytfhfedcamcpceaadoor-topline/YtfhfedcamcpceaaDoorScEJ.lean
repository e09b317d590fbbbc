/- Walks: script.Tell, script.line. -- s1 -/
import Derived.Test.YtfhfedcamcpceaaDoorScBJ
namespace Go.Proofs.YtfhfedcamcpceaaDoor
open Go.RowKit
open Go.Lib hiding intOf

theorem Tryd.infoS9 : (Tryd.prog.info? 9).map (fun i => (i.zero, i.size, i.bytes)) = some (some (.string ⟨#[]⟩), 1, 16) := by kernel_rfl
theorem strsV_one (l : List (List UInt8)) : ∀ v ∈ strsV l, v.oneCell' = true := by
  intro v hv
  obtain ⟨n, _, rfl⟩ := List.mem_map.1 hv
  rfl
theorem strsV_app (a b : List (List UInt8)) : strsV (a ++ b) = strsV a ++ strsV b := by simp [strsV]
/-- a text appended to a row of one's own -/
theorem strs_app1 (w : World) (B : Nat) (v : Value) (l : List (List UInt8)) (n : Nat) (h : w.ownsRow B 9 1 v n (strsV l)) (hn : n ≤ 1000000000) (hB : B ≤ w.heap.size) (x : List UInt8) (g : Nat) (c0 : w.cell? ⟨g, 0, none⟩ = some (.string ⟨x.toArray⟩)) :
    ∃ v' w', (Builtin.append_ #[66, 66] 66 #[v, .slice (some ⟨g, 0, none⟩) 1 1]).run Tryd.prog w = .ok v' w' ∧ w'.ownsRow B 9 1 v' (n + 1) (strsV (l ++ [x])) ∧ Below B w w' ∧ (v' = .slice none 0 0 → v = .slice none 0 0) := by
  obtain ⟨i0, hi, hz0, hz1, hz2⟩ := info_parts Tryd.infoS9
  obtain ⟨v', w', hr, r1, r2, r3, _⟩ := run_append_own_at (P := Tryd.prog) w B 66 66 9 i0 _ 1 16 Tryd.underlying66 hi hz0 hz1 hz2 rfl (by decide) v n _ h ⟨g, 0, none⟩ 1 1 (strsV [x]) rfl
    (fun j u hj => by
      rw [addr_add]
      match j, hj with
      | 0, hj => simp [strsV] at hj; subst hj; exact c0) (strsV_one _) (by unfold maxLen; omega) (by omega) hB
  refine ⟨v', w', hr, ?_, (Below.refl _ _).grown r2 hB (fun z hz => (h.lt z hz).1), fun hv => (r3.1 hv).1⟩
  rw [strsV_app]
  exact r1
theorem dec_len (m : Nat) : ∀ n : Nat, n < 10 ^ m → (decDigits n).length ≤ m + 1 := by
  induction m with
  | zero =>
    intro n h
    have h0 : n = 0 := by simp at h; exact h
    subst h0
    rw [Sc.dec_one (by omega)]
    simp
  | succ m ih =>
    intro n h
    rw [decDigits]
    split
    · simp
    · rename_i hn
      rw [List.length_append]
      have := ih (n / 10) (by rw [Nat.pow_succ] at h; omega)
      simp only [List.length_singleton]
      omega
theorem itoa_len {n : Int} (h1 : -9223372036854775808 ≤ n) (h2 : n ≤ 9223372036854775807) : (itoa n).length ≤ 21 := by
  unfold itoa
  split
  · rw [List.length_cons]; have := dec_len 19 n.natAbs (by omega); omega
  · have := dec_len 19 n.toNat (by omega); omega
theorem join_cons (a : List UInt8) (r : List (List UInt8)) (h : r ≠ []) : Lib.join (a :: r) [32] = a ++ 32 :: Lib.join r [32] := by
  cases r with
  | nil => exact absurd rfl h
  | cons b r => simp [Lib.join, List.intercalate]
theorem join_tell : ∀ (ns : List Int), ns ≠ [] → 32 :: Lib.join (ns.map itoa) [32] = Sc.tellN ns := by
  intro ns
  induction ns with
  | nil => intro h; exact absurd rfl h
  | cons n r ih =>
    intro _
    by_cases hr : r = []
    · subst hr; simp [Lib.join, List.intercalate, Sc.tellN]
    · rw [List.map_cons, join_cons _ _ (by simp [hr])]
      have e : Sc.tellN (n :: r) = 32 :: (itoa n ++ Sc.tellN r) := by simp [Sc.tellN]
      rw [e, ← ih hr]
theorem tell_len : ∀ (ns : List Int), (∀ n ∈ ns, -9223372036854775808 ≤ n ∧ n ≤ 9223372036854775807) → (Sc.tellN ns).length ≤ 22 * ns.length := by
  intro ns
  induction ns with
  | nil => intro _; simp [Sc.tellN]
  | cons n r ih =>
    intro h
    have e : Sc.tellN (n :: r) = 32 :: (itoa n ++ Sc.tellN r) := by simp [Sc.tellN]
    have h1 := ih (fun x hx => h x (by simp [hx]))
    have h2 := itoa_len (h n (by simp)).1 (h n (by simp)).2
    rw [e, List.length_cons, List.length_append, List.length_cons]
    omega
set_option maxHeartbeats 8000000 in
set_option maxRecDepth 100000 in
theorem tellS_any (v : Value) (ns : List Int) (w : World) (HE : Hid (LibE w)) (HN : Hid (RdI w v ns)) (hn : ns.length ≤ 1000000) (hb : ∀ n ∈ ns, -9223372036854775808 ≤ n ∧ n ≤ 9223372036854775807) :
    Calls Tryd.prog 66 #[v] w fun e w' => e = .returned (.string ⟨(Lib.join (ns.map itoa) [32]).toArray⟩) ∧ Below w.heap.size w w' := by
  obtain ⟨i0, hi, hz0, hz1, hz2⟩ := info_parts Tryd.infoS9
  obtain ⟨a, cap, hv, hlc, hcap, -⟩ := HN.out
  have HB := hid_of3 hb
  obtain ⟨n, HL⟩ : ∃ n, Hid (ns.length = n) := ⟨_, (rfl : _ = _)⟩
  rw [HL.out] at hv hlc hn
  clear hb
  subst hv
  go_enter Tryd.func66, Tryd.ntmps66
  go_wp2_with (at_make; refine wpList_make_own _ rfl _ _ 66 rfl w.heap.size 9 i0 (.string ⟨#[]⟩) 1 Tryd.underlying66 hi hz0 hz1 _ _ _ n rfl rfl ?a1 ?b1 ?b2 ?b3 ?_)
  case a1 => first | rfl | omega
  case b1 => rw [hz2]; omega
  case b2 => unfold maxLen; omega
  case b3 => exact Nat.le_refl _
  intro W0 hown0 hgrow0
  have hb0 : Below w.heap.size w W0 := (Below.refl _ _).grown hgrow0 (Nat.le_refl _) (by intro k hk; cases hk)
  have HO0 : Hid (W0.ownsRow w.heap.size 9 1 (.slice (some ⟨w.heap.size, 0, none⟩) 0 n) 0 (strsV [])) := hown0
  clear hown0 hgrow0
  go_wp2_with fail
  go_loopw [3, 11] (fun o i wr => ∃ (k : Nat) (oa : Option Addr) (oc : Nat), k ≤ n ∧ i = .int .i64 k ∧ o = .slice oa k oc ∧ Hid (wr.ownsRow w.heap.size 9 1 (.slice oa k oc) k (strsV ((ns.take k).map itoa))) ∧ Below w.heap.size w wr) (fun _ i _ => n - (intOf i).toNat)
  case atStart => exact ⟨0, _, _, by omega, rfl, rfl, HO0, hb0⟩
  case round =>
    obtain ⟨k, oa, oc, hk, rfl, rfl, HO, hbr⟩ := hrel
    by_cases hlt : k < n
    · have hlt' : k < ns.length := by rw [HL.out]; exact hlt
      obtain ⟨x, HX⟩ : ∃ x, Hid (ns.getD k 0 = x) := ⟨_, (rfl : _ = _)⟩
      have HNr : Hid (RdI wr (.slice a n cap) ns) := HN.out.on hbr
      obtain ⟨g, o, rfl, hg, cx⟩ := HNr.out.at hlt HL HX
      have hki0 : (0 : Int) ≤ (k : Int) := by omega
      have hki1 : (k : Int) < (n : Int) := by omega
      have hxe : ns[k] = x := by rw [← HX.out, List.getD_eq_getElem?_getD, List.getElem?_eq_getElem hlt']; rfl
      have hxb := HB.out x (by rw [← hxe]; exact List.getElem_mem hlt')
      have HTK : Hid (((ns.take (k + 1)).map itoa) = ((ns.take k).map itoa) ++ [itoa x]) := by
        unfold Hid; rw [List.take_succ_eq_append_getElem hlt', List.map_append, hxe]; rfl
      have HI := hid_of3 (itoa_lib x wr (HE.out.on hbr) hxb.1 hxb.2)
      obtain ⟨t, HT⟩ := text_of (itoa x)
      rw [HT.out.1] at HI
      clear hxe hxb
      go_wp2_with fail
      refine HI.out.mono ?_
      rintro e w1 ⟨rfl, hb1⟩
      have hbb1 := hbr.trans (hb1.mono hbr.size)
      have hxa : Below w1.heap.size w1 (w1.alloc (.cells #[.string t] 9)) := (Below.refl _ _).alloc (Nat.le_refl _) _
      obtain ⟨v', w3, hr, ho, hb3, -⟩ := strs_app1 (w1.alloc (.cells #[.string t] 9)) w.heap.size _ _ k (own_on2 (own_on2 HO.out hb1) hxa) (by omega) (by have := hbb1.size; simp; omega) (itoa x) w1.heap.size (by rw [HT.out.1]; simp)
      rw [← HTK.out] at ho
      have HRR := hid_of3 hr
      obtain ⟨na, nc, hv'⟩ := own_any ho
      subst hv'
      have HO3 := hid_of3 ho
      have hbb3 := (hbb1.alloc hbb1.size (.cells #[.string t] 9)).trans hb3
      clear hr ho hb3 hxa hb1 hbb1 HI HT HTK
      go_wp2_with (at_builtin; refine Lib.wpList_append_run _ rfl _ _ _ _ rfl _ _ rfl rfl _ _ HRR.out ?_)
      go_roundw
      case rel => exact ⟨k + 1, na, nc, by omega, by go_num, rfl, HO3, hbb3⟩
      case measure => simp [intOf]; omega
    · obtain rfl : k = n := by omega
      have hki : ¬ (k : Int) < (k : Int) := by omega
      rw [List.take_of_length_le (by rw [HL.out]; exact Nat.le_refl _)] at HO
      have hml : (ns.map itoa).length = k := by rw [List.length_map, HL.out]
      have hjl : (Lib.join (ns.map itoa) [32]).length ≤ 1000000000 := by
        by_cases h0 : ns = []
        · subst h0; simp [Lib.join, List.intercalate]
        · have h1 := tell_len ns HB.out
          rw [← join_tell ns h0, List.length_cons, HL.out] at h1
          omega
      have HJ := hid_of3 (join_lib (.slice oa k oc) (ns.map itoa) w.heap.size wr (by rw [hml]; exact HO) (by omega) hjl)
      clear hml hjl
      go_wp2_with fail
      refine HJ.out.mono ?_
      rintro e w1 ⟨rfl, hb1⟩
      go_wp2_with fail
      go_ret
      exact ⟨rfl, hbr.trans (hb1.mono hbr.size)⟩
set_option maxHeartbeats 8000000 in
set_option maxRecDepth 100000 in
theorem lineS_any (s : ByteArray) (v : Value) (ns : List Int) (w : World) (HE : Hid (LibE w)) (HN : Hid (RdI w v ns)) (hn : ns.length ≤ 1000000) (hb : ∀ n ∈ ns, -9223372036854775808 ≤ n ∧ n ≤ 9223372036854775807) (hs : s.size ≤ 1000000) (t : ByteArray) (HT : Hid (s.data.toList ++ Sc.tellN ns = t.data.toList)) :
    Calls Tryd.prog 41 #[.string s, v] w fun e w' => e = .returned (.string t) ∧ Below w.heap.size w w' := by
  obtain ⟨a, cap, hv, hlc, hcap, -⟩ := HN.out
  have HTS := hid_of3 (tellS_any v ns w HE HN hn hb)
  have HB := hid_of3 hb
  obtain ⟨n, HL⟩ : ∃ n, Hid (ns.length = n) := ⟨_, (rfl : _ = _)⟩
  rw [HL.out] at hv hlc hn
  clear hb
  subst hv
  by_cases h0 : n = 0
  · subst h0
    have hts : s = t := data_inj (by rw [← HT.out, List.eq_nil_of_length_eq_zero HL.out]; simp [Sc.tellN])
    subst hts
    go_enter Tryd.func41, Tryd.ntmps41
    go_wp2_with fail
    go_ret
    exact ⟨rfl, Below.refl _ _⟩
  · have hni : ¬ (n : Int) = 0 := by omega
    have hne : ns ≠ [] := fun e => by rw [e] at HL; exact h0 HL.out.symm
    obtain ⟨j, HJ⟩ := text_of (Lib.join (ns.map itoa) [32])
    have hjs : j.size ≤ 1000000000 := by
      have h1 := tell_len ns HB.out
      rw [← join_tell ns hne, List.length_cons, HL.out, HJ.out.2] at h1
      simp at h1
      omega
    have HTT : Hid (s ++ ⟨#[32]⟩ ++ j = t) := by
      refine data_inj ?_
      rw [← HT.out, ← join_tell ns hne, ByteArray.data_append, ByteArray.data_append, Array.toList_append, Array.toList_append, HJ.out.2]
      simp
    rw [HJ.out.1] at HTS
    clear HJ hne
    go_enter Tryd.func41, Tryd.ntmps41
    go_wp2_with fail
    refine HTS.out.mono ?_
    rintro e w1 ⟨rfl, hb1⟩
    go_wp2_with fail
    go_ret
    exact ⟨by rw [← HTT.out]; rfl, hb1⟩
end Go.Proofs.YtfhfedcamcpceaaDoor
