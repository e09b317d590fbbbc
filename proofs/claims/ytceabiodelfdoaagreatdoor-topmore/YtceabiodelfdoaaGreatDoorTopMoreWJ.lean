/- Walk of the law TopMore. -- s1 -/
import Derived.Test.YtceabiodelfdoaaGreatDoorM14
import Derived.Test.YtceabiodelfdoaaGreatDoorTopBookWJ
namespace Go.Proofs.YtceabiodelfdoaaGreatDoor
open Go.RowKit Go.Maps

/-- the bytes behind so many ops of a book, and ahead of them -/
theorem book_drop {qs : List Pq} (HBK : Book qs) {k : Nat} (hk : k < qs.length) {q : Pq} (HX : qs.getD k pq0 = q) : firstV (bookB (qs.drop k)) = .tuple #[.agg #[str (ndB q).1, str (ndB q).2], str (bookB (qs.drop (k + 1))), .nilIface] := by
  subst HX
  have hq := HBK.ok k hk
  obtain ⟨s, hs, hm, he, hc⟩ := nd_some hq
  have hf := nd_fine hq
  have e : bookB (qs.drop k) = Fb.sealL (Fb.headL (ndB (qs.getD k pq0)).1 (ndB (qs.getD k pq0)).2) ++ bookB (qs.drop (k + 1)) := by
    rw [List.drop_eq_getElem_cons hk, ← getD_pq hk]
    unfold bookB
    rw [List.flatMap_cons, hc, he]
  unfold firstV
  rw [e, Fb.first_seal _ _ _ hf.1 hf.2]
  rfl
theorem book_parts (qs : List Pq) (k : Nat) : bookB qs = bookB (qs.take k) ++ bookB (qs.drop k) := by
  unfold bookB
  rw [← List.flatMap_append, List.take_append_drop]
theorem chunk_ok {n d : List UInt8} {l : List UInt8} {c : Nat} (h : Fb.chunkBytes n d = (l, c)) (hc : c = 0) : Fb.nameB n = true ∧ d.length ≤ 65535 ∧ l = Fb.sealL (Fb.headL n d) := by
  subst hc
  unfold Fb.chunkBytes at h
  split at h
  · cases h
  rename_i h1
  split at h
  · cases h
  rename_i h2
  simp only [Prod.mk.injEq] at h
  exact ⟨by simpa using h1, by omega, h.1.symm⟩
theorem pass_x (nm : ByteArray) : passB ((⟨#[88]⟩ : ByteArray) ++ nm).data.toList = true := by
  rw [cons_data]
  rfl
theorem two_parse {qs : List Pq} {k : Nat} {hd xb rs n d : List UInt8} (h : bkC qs = 0) (e1 : hd = bookB (qs.take k)) (e2 : rs = bookB (qs.drop k)) (hx : Fb.chunkBytes n d = (xb, 0)) (hp : passB n = true) (hl : (hd ++ xb ++ rs).length ≤ 4000) : bookOf (hd ++ xb ++ rs) = (qs, 0) := by
  obtain ⟨h1, h2, rfl⟩ := chunk_ok hx rfl
  subst e1 e2
  have hc : Fb.catL [(n, d)] = Fb.sealL (Fb.headL n d) := by simp [Fb.catL]
  have := bookOf_more qs [(n, d)] k h (by simp; exact ⟨h1, h2, hp⟩) (by simp)
  rw [hc, ← List.append_assoc] at this
  exact this hl

set_option maxHeartbeats 8000000 in
set_option maxRecDepth 100000 in
theorem topMore_any (v : Value) (nm dt : ByteArray) (at0 : Int) (qs : List Pq) (w : World) (HS : Hid (Shapes w)) (h1 : 0 < w.heap.size) (HR : Hid (RdQ w v qs)) (hnm : nm.size ≤ 140737488355328) (hdt : dt.size ≤ 9223372036854775807) :
    Calls Tryz.prog 4 #[v, .string nm, .string dt, .int .i64 at0] w fun e w' => e = .returned (.bool true) ∧ Below w.heap.size w w' := by
  obtain ⟨a, cap, hv, _, _⟩ := HR.out.shape
  obtain ⟨n, HN⟩ : ∃ n, Hid (qs.length = n) := ⟨_, (rfl : _ = _)⟩
  rw [HN.out] at hv
  subst hv
  go_enter Tryz.func4, Tryz.ntmps4
  go_wp2_with fail
  refine (works_any _ HS h1).mono ?_
  rintro e w1 ⟨rfl, hb1⟩
  have HS1 : Hid (Shapes w1) := HS.out.on h1 hb1
  have h11 := Nat.lt_of_lt_of_le h1 hb1.size
  have HR1 : Hid (RdQ w1 (.slice a n cap) qs) := HR.out.on hb1
  go_wp2_with fail
  refine (may_any _ qs _ HS1 h11 HR1).mono ?_
  rintro e w2 ⟨b, rfl, hl, hb2⟩
  have hbb2 := hb1.trans (hb2.mono hb1.size)
  clear hb2 HR1 HS1 h11
  cases b with
  | false =>
    go_wp2_with fail
    go_ret
    exact ⟨rfl, hbb2⟩
  | true =>
  have HMY := hid_of3 (hl rfl)
  clear hl
  have HBK : Hid (Book qs) := book_of HMY.out.ok
  have HZ : Hid (bkC qs = 0) := HMY.out.ok
  have hqn : qs.length ≤ 1000 := HMY.out.len
  have hn60 : n ≤ 60 := by rw [← HN.out]; exact HBK.out.few
  by_cases hd1 : (100 : Int) < (dt.size : Int)
  · go_wp2_with fail
    go_ret
    exact ⟨rfl, hbb2⟩
  obtain ⟨xn, HXN⟩ : ∃ xn, Hid ((⟨#[88]⟩ : ByteArray) ++ nm = xn) := ⟨_, (rfl : _ = _)⟩
  have hxs : xn.size ≤ 140737488355329 := by rw [← HXN.out, ByteArray.size_append]; show 1 + nm.size ≤ _; omega
  obtain ⟨z, HXB⟩ : ∃ z, Hid (Fb.chunkBytes xn.data.toList dt.data.toList = z) := ⟨_, (rfl : _ = _)⟩
  obtain ⟨xl, xc⟩ := z
  obtain ⟨xb, HXL⟩ := bytes_of xl
  have hcb := fun W => bytes_at xn dt W (by omega) hdt (.string xb) (errV xc) xl xc HXB (by unfold Hid; rw [HXL.out, str_self]) rfl
  by_cases hxc : xc = 0
  case neg =>
    rw [err_v hxc] at hcb
    have HCB := hid_of3 hcb
    clear hcb
    go_wp2_with fail
    rw [HXN.out]
    refine (HCB.out _).mono ?_
    rintro e w3 ⟨rfl, hb3⟩
    go_wp2_with fail
    go_ret
    exact ⟨rfl, hbb2.trans (hb3.mono hbb2.size)⟩
  subst hxc
  rw [show errV 0 = Value.nilIface from rfl] at hcb
  have HCB := hid_of3 hcb
  clear hcb
  have HPX : Hid (passB xn.data.toList = true) := by unfold Hid; rw [← HXN.out]; exact pass_x nm
  have hbl : (bookB qs).length ≤ 60480 := bookB_max HBK.out
  have hxbs : xb.size ≤ 200000 := by
    obtain ⟨h1, h2, h3⟩ := chunk_ok HXB.out rfl
    rw [size_of HXL, h3, Fb.sealL_len, Fb.headL_len _ _ (Fb.nameB_len h1)]
    omega
  go_wp2_with fail
  rw [HXN.out]
  refine (HCB.out _).mono ?_
  rintro e w3 ⟨rfl, hb3⟩
  have hbb3 := hbb2.trans (hb3.mono hbb2.size)
  clear hb3 hbb2 HCB
  have hbb := bookBytes_any (.slice a n cap) qs w3 (HS.out.on h1 hbb3) (Nat.lt_of_lt_of_le h1 hbb3.size) (HR.out.on hbb3) (px_light HMY.out.light) hqn
  have HBB := hid_of3 hbb
  clear hbb hqn
  go_wp2_with fail
  refine HBB.out.mono ?_
  clear HBB
  rintro e w4 ⟨hb4, he⟩
  have hbb4 := hbb3.trans (hb4.mono hbb3.size)
  clear hb4 hbb3
  obtain ⟨sb, HSB⟩ := bytes_of (bookB qs)
  have he2 : e = .returned (.tuple #[.string sb, .nilIface]) := by
    rcases he with ⟨c, hc, hn, _⟩ | ⟨_, rfl⟩
    · exact absurd (hc.symm.trans HZ.out) hn
    · rw [HSB.out, str_self]
  subst he2
  clear he
  have hsz : sb.size ≤ 60480 := by rw [size_of HSB]; exact hbl
  clear hbl
  have HS4 : Hid (Shapes w4) := HS.out.on h1 hbb4
  have h14 := Nat.lt_of_lt_of_le h1 hbb4.size
  by_cases h4 : 4000 < sb.size
  · have h4i : (4000 : Int) < (sb.size : Int) := by omega
    have HP := hid_of3 (parse_at sb [] 2 (.iface 62 (.int .i64 2)) w4 HS4 h14 (by omega) (bp_long h4) rfl)
    go_wp2_with fail
    refine HP.out.mono ?_
    rintro e w5 ⟨x, rfl, hx, hb5⟩
    have hbb5 := hbb4.trans (hb5.mono hbb4.size)
    clear hb5 HP hx
    go_wp2_with fail
    go_ret
    exact ⟨rfl, hbb5⟩
  have HP := hid_of3 (parse_at sb qs 0 .nilIface w4 HS4 h14 (by omega) (bp_ok HZ.out HSB.out (by omega)) rfl)
  obtain ⟨A, HA⟩ : ∃ A : Nat, Hid (bits .and .i64 at0 1023 = (A : Int)) := ⟨(at0 % 1024).toNat, by unfold Hid; rw [and_1023]; omega⟩
  have hA : A ≤ 1023 := by have h := HA.out; rw [and_1023] at h; omega
  obtain ⟨K0, HK0⟩ : ∃ K0 : Nat, Hid (A % (n + 1) = K0) := ⟨_, (rfl : _ = _)⟩
  have hK0 : K0 ≤ n := by rw [← HK0.out]; have := Nat.mod_lt A (show 0 < n + 1 by omega); omega
  have hn1 : ¬ ((n : Int) + 1 = 0) := by omega
  have hand := HA.out
  have hrem : ((A : Int)).tmod ((n : Int) + 1) = (K0 : Int) := by
    rw [← HK0.out, Int.tmod_eq_emod_of_nonneg (by omega), Int.natCast_emod, Int.natCast_add]
    rfl
  go_wp2_with fail
  refine HP.out.mono ?_
  rintro e w5 ⟨x, rfl, hx, hb5⟩
  have hbb5 := hbb4.trans (hb5.mono hbb4.size)
  have HX5 := hid_of3 hx
  clear hb5 HP hx
  go_wp2_with fail
  have HSBL : Hid (sb.data.toList = bookB qs) := HSB.out.symm
  go_loopw [14, 15, 16] (fun hv rv kv wr => ∃ (j K : Nat) (hd rs : ByteArray), j + K = K0 ∧ kv = .int .i64 (K : Int) ∧ hv = .string hd ∧ rv = .string rs ∧ Hid (hd.data.toList = bookB (qs.take j)) ∧ Hid (rs.data.toList = bookB (qs.drop j)) ∧ Below w5.heap.size w5 wr) (fun _ _ i _ => (intOf i).toNat)
  case atStart => exact ⟨0, K0, ⟨#[]⟩, sb, by omega, rfl, rfl, rfl, (by unfold Hid; rw [List.take_zero]; rfl), (by unfold Hid; rw [List.drop_zero]; exact HSBL.out), Below.refl _ _⟩
  case round =>
    obtain ⟨j, K, hd, rs, hjK, rfl, rfl, rfl, HHD, HRS, hbr⟩ := hrel
    have HLN : Hid (hd.size + rs.size = sb.size) := by
      have e := congrArg List.length (book_parts qs j)
      rw [← HHD.out, ← HRS.out, ← HSBL.out, List.length_append] at e
      unfold Hid
      simpa using e.symm
    have hrl : rs.size ≤ sb.size := by have := HLN.out; omega
    have hbbr := hbb5.trans (hbr.mono hbb5.size)
    have HXr : Hid (RdQ wr x qs) := HX5.out.on hbr
    by_cases hK : 0 < K
    · have hKi : (0 : Int) < (K : Int) := by omega
      have hjn : j < qs.length := by rw [HN.out]; omega
      obtain ⟨ls, HLS⟩ := bytes_of (bookB (qs.drop (j + 1)))
      obtain ⟨c1, HC1⟩ := bytes_of (ndB (qs.getD j pq0)).1
      obtain ⟨c2, HC2⟩ := bytes_of (ndB (qs.getD j pq0)).2
      have hf := book_drop HBK.out hjn rfl
      rw [HC1.out, HC2.out, HLS.out, str_self, str_self, str_self, ← HRS.out] at hf
      have HF := hid_of3 (fun W => first_at rs W (by omega) _ hf)
      have hls : ls.size ≤ rs.size := by
        have e := congrArg List.length (show bookB (qs.drop j) = cB (qs.getD j pq0) ++ bookB (qs.drop (j + 1)) by
          rw [List.drop_eq_getElem_cons hjn, ← getD_pq hjn]
          unfold bookB
          rw [List.flatMap_cons])
        rw [← HRS.out, HLS.out, List.length_append] at e
        simp at e
        omega
      obtain ⟨D, HD⟩ : ∃ D : Nat, Hid (sb.size - ls.size = D) := ⟨_, (rfl : _ = _)⟩
      have hDs : D ≤ sb.size := by have := HD.out; omega
      have hDi : ((sb.size : Int) - (ls.size : Int)) = (D : Int) := by have := HD.out; omega
      have hDw : IntKind.i64.wrap ((sb.size : Int) - (ls.size : Int)) = (D : Int) := by rw [IntKind.wrap_i64]; have := HD.out; omega
      have HH2 : Hid ((sb.extract 0 D).data.toList = bookB (qs.take (j + 1))) := by
        unfold Hid
        rw [ext_data, List.drop_zero, HSBL.out, book_parts qs (j + 1)]
        have hl : (bookB (qs.take (j + 1))).length = D - 0 := by
          have e := congrArg List.length (book_parts qs (j + 1))
          rw [← HSBL.out, List.length_append, HLS.out] at e
          simp at e
          have := HD.out
          omega
        rw [← hl]
        exact List.take_left
      clear hf hls HLN HC1 HC2 HD
      go_wp2_with fail
      refine (HF.out _).mono ?_
      rintro e w6 ⟨rfl, hb6⟩
      have hb56 : Below w5.heap.size w5 w6 := hbr.trans (hb6.mono hbr.size)
      have hK1 : ((K : Int) - 1) = ((K - 1 : Nat) : Int) := by omega
      go_wp2_with fail
      exact ⟨⟨j + 1, K - 1, sb.extract 0 D, ls, by omega, rfl, rfl, rfl, HH2.out, HLS.out.symm, hb56.alloc hb56.size _⟩, by simp [intOf]; omega⟩
    · obtain rfl : K = 0 := by omega
      have hKi : ¬ (0 : Int) < ((0 : Nat) : Int) := by omega
      by_cases hm4 : 4000 < sb.size + xb.size
      · have hm4i : (4000 : Int) < (sb.size : Int) + (xb.size : Int) := by omega
        go_wp2_with fail
        go_ret
        exact ⟨rfl, hbbr⟩
      · have hm4i : ¬ (4000 : Int) < (sb.size : Int) + (xb.size : Int) := by omega
        have hts : (hd ++ xb ++ rs).size ≤ 4000 := by rw [ByteArray.size_append, ByteArray.size_append]; have := HLN.out; omega
        obtain ⟨T, HT⟩ : ∃ T, Hid (hd ++ xb ++ rs = T) := ⟨_, (rfl : _ = _)⟩
        have hbo : bookOf T.data.toList = (qs, 0) := by
          rw [← HT.out, ByteArray.data_append, ByteArray.data_append, Array.toList_append, Array.toList_append]
          refine two_parse HZ.out HHD.out HRS.out (by rw [HXB.out, HXL.out]) HPX.out ?_
          have e : (hd.data.toList ++ xb.data.toList ++ rs.data.toList).length = (hd ++ xb ++ rs).size := by simp [ByteArray.size_append]; omega
          omega
        have HP2 := hid_of3 (parse_at T qs 0 .nilIface wr (HS.out.on h1 hbbr) (Nat.lt_of_lt_of_le h1 hbbr.size) (by rw [← HT.out]; omega) hbo rfl)
        clear hbo
        have hhl : hd.size ≤ 60480 := by have := HLN.out; omega
        have hrl2 : rs.size ≤ 60480 := by have := HLN.out; omega
        go_wp2_with fail
        rw [HT.out]
        refine HP2.out.mono ?_
        rintro e w6 ⟨y, rfl, hy, hb6⟩
        have HY6 := hid_of3 hy
        have HX6 := hid_of3 (HXr.out.on hb6)
        have hbb6 := hbbr.trans (hb6.mono hbbr.size)
        clear hb6 hy HP2
        go_wp2_with fail
        refine (sameOps_any _ _ qs _ HX6 HY6 (px_light HMY.out.light)).mono ?_
        rintro e w7 ⟨rfl, hb7⟩
        have hbb7 := hbb6.trans (hb7.mono hbb6.size)
        go_wp2_with fail
        go_ret
        exact ⟨rfl, hbb7⟩
end Go.Proofs.YtceabiodelfdoaaGreatDoor
