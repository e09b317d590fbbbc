/- Walk of the law BookSays. -- s1 -/
import Derived.Test.YtceabiodelfdoaaDoorM11
import Derived.Test.YtceabiodelfdoaaDoorBksAJ
import Derived.Test.YtceabiodelfdoaaDoorBpBJ
import Derived.Test.YtceabiodelfdoaaDoorBcFJ
import Derived.Test.YtceabiodelfdoaaDoorRefE2J
namespace Go.Proofs.YtceabiodelfdoaaDoor
open Go.RowKit Go.Maps

theorem parB_px : ∀ (cs : List (List UInt8 × List UInt8)) (acc : List Pq), (∀ q ∈ acc, q.ps.length ≤ 64) → ∀ q ∈ (parB cs acc).1, q.ps.length ≤ 64 := by
  intro cs
  induction cs with
  | nil => intro acc h; exact h
  | cons p r ih =>
    intro acc h
    obtain ⟨n, d⟩ := p
    unfold parB
    split
    · exact ih acc h
    · split
      · refine ih _ fun q hq => ?_
        rcases List.mem_append.1 hq with hq | hq
        · exact h q hq
        · have hq := List.mem_singleton.1 hq
          subst hq
          exact parQ_len2 _ _
      · simp
theorem bookOf_px (l : List UInt8) : ∀ q ∈ (bookOf l).1, q.ps.length ≤ 64 := by
  unfold bookOf
  split
  · simp
  split
  · simp
  split
  · simp
  split
  · simp
  · exact parB_px _ [] (by simp)
theorem px_get {qs : List Pq} (h : ∀ q ∈ qs, q.ps.length ≤ 64) : ∀ j, j < qs.length → (qs.getD j pq0).ps.length ≤ 1000 := fun j hj => by have := h _ (mem_pq hj); omega
theorem book_uni (qs : List Pq) : ∃ nv : ByteArray, (∀ w e w', BBP qs w e w' → e = .returned (.tuple #[.string nv, errV (bkC qs)]) ∧ Below w.heap.size w w') ∧
    (∀ w e w', RBbP qs w e w' → e = .returned (.tuple #[.string nv, .int .i64 (bkC qs : Nat)]) ∧ Below w.heap.size w w') := by
  by_cases h : bkC qs = 0
  · refine ⟨⟨(bookB qs).toArray⟩, ?_, ?_⟩
    · rintro w e w' ⟨hb, ⟨c, hc, hn, _⟩ | ⟨_, rfl⟩⟩
      · exact absurd (hc.symm.trans h) hn
      · rw [h]
        exact ⟨rfl, hb⟩
    · rintro w e w' ⟨hb, ⟨c, hc, hn, _⟩ | ⟨_, rfl⟩⟩
      · exact absurd (hc.symm.trans h) hn
      · rw [h]
        exact ⟨rfl, hb⟩
  · refine ⟨⟨#[]⟩, ?_, ?_⟩
    · rintro w e w' ⟨hb, ⟨c, hc, hn, rfl⟩ | ⟨hz, _⟩⟩
      · rw [hc]; exact ⟨rfl, hb⟩
      · exact absurd hz h
    · rintro w e w' ⟨hb, ⟨c, hc, hn, rfl⟩ | ⟨hz, _⟩⟩
      · rw [hc]; exact ⟨rfl, hb⟩
      · exact absurd hz h
theorem books_ops (w : World) : RdQ (w.alloc (.cells #[.int .i64 1, .int .i64 0, .int .i64 2, .int .i64 1, .int .i64 0, .int .i64 0, .int .i64 0, .int .i64 0, .slice none 0 0, .int .i64 16, .int .i64 0, .int .i64 0, .int .i64 0, .int .i64 0, .int .i64 0, .int .i64 0, .int .i64 0, .slice none 0 0] 45)) (.slice (some ⟨w.heap.size, 0, none⟩) 2 2) qsB := by
  have h := World.ownsRow_lit (base := w.heap.size) (e := 45) (size := 9) w #[.int .i64 1, .int .i64 0, .int .i64 2, .int .i64 1, .int .i64 0, .int .i64 0, .int .i64 0, .int .i64 0, .slice none 0 0, .int .i64 16, .int .i64 0, .int .i64 0, .int .i64 0, .int .i64 0, .int .i64 0, .int .i64 0, .int .i64 0, .slice none 0 0] 2 (Nat.le_refl _) (by unfold maxLen; omega) rfl
  have h2 : OwnQ (w.alloc (.cells #[.int .i64 1, .int .i64 0, .int .i64 2, .int .i64 1, .int .i64 0, .int .i64 0, .int .i64 0, .int .i64 0, .slice none 0 0, .int .i64 16, .int .i64 0, .int .i64 0, .int .i64 0, .int .i64 0, .int .i64 0, .int .i64 0, .int .i64 0, .slice none 0 0] 45)) w.heap.size (.slice (some ⟨w.heap.size, 0, none⟩) 2 2) [(⟨1, 0, 2, 1, 0, 0, 0, 0, []⟩, .slice none 0 0), (⟨16, 0, 0, 0, 0, 0, 0, 0, []⟩, .slice none 0 0)] := ⟨h, fun q hq => by
    simp only [List.mem_cons, List.not_mem_nil, or_false] at hq
    rcases hq with rfl | rfl <;> exact World.ownsRow_nil _ _ _ _⟩
  exact h2.rd
theorem qsB_px : ∀ j, j < qsB.length → (qsB.getD j pq0).ps.length ≤ 1000 := by
  intro j hj
  match j, hj with
  | 0, _ => decide
  | 1, _ => decide
  | j + 2, hj => exact absurd hj (by simp [qsB])
theorem qsB_size : decide ((bookB qsB).length ≤ 1000) = true := by kernel_rfl

set_option maxHeartbeats 8000000 in
set_option maxRecDepth 100000 in
theorem books_any (w : World) (HS : Hid (Shapes w)) (h1 : 1 < w.heap.size) : Calls Tryd.prog 4 #[] w fun e w' => e = .returned (.bool true) ∧ Below w.heap.size w w' := by
  have hbz : Below w.heap.size w (w.alloc (.cells #[.int .i64 1, .int .i64 0, .int .i64 2, .int .i64 1, .int .i64 0, .int .i64 0, .int .i64 0, .int .i64 0, .slice none 0 0, .int .i64 16, .int .i64 0, .int .i64 0, .int .i64 0, .int .i64 0, .int .i64 0, .int .i64 0, .int .i64 0, .slice none 0 0] 45)) := (Below.refl _ _).alloc (Nat.le_refl _) _
  have HBB := hid_of3 (bookBytes_any _ qsB _ (HS.out.on h1 hbz) (Nat.lt_of_lt_of_le h1 hbz.size) (books_ops w) qsB_px (by decide))
  obtain ⟨sb, HSB⟩ := bytes_of (bookB qsB)
  have hss : sb.size ≤ 1000 := by rw [size_of HSB]; exact of_decide_eq_true qsB_size
  have HBP := hid_of3 (fun X (h : Hid (Shapes X)) hl => bookParse_any sb X h hl (by omega))
  rw [← HSB.out, qsB_read] at HBP
  unfold PBoP at HBP
  go_enter Tryd.func4, Tryd.ntmps4
  go_wp2_with fail
  refine HBB.out.mono ?_
  clear HBB
  rintro e w2 ⟨hb2, he⟩
  have hbb2 := hbz.trans (hb2.mono hbz.size)
  have he2 : e = .returned (.tuple #[.string sb, .nilIface]) := by
    rcases he with ⟨c, hc, hn, _⟩ | ⟨_, rfl⟩
    · exact absurd (hc.symm.trans qsB_ok) hn
    · rw [HSB.out, str_self]
  subst he2
  clear he hb2
  go_wp2_with fail
  refine (HBP.out _ (HS.out.on h1 hbb2) (Nat.lt_of_lt_of_le h1 hbb2.size)).mono ?_
  clear HBP
  rintro e w3 ⟨v, rfl, hr3, hb3⟩
  have hbb3 := hbb2.trans (hb3.mono hbb2.size)
  obtain ⟨a, cap, hv, hl0, hcap⟩ := hr3.shape
  rw [show qsB.length = 2 from rfl] at hv
  subst hv
  obtain ⟨g, o, ua, mu, uc, rfl, hg, OC, -, -⟩ := hr3.at (k := 0) (by omega) (x := ⟨1, 0, 2, 1, 0, 0, 0, 0, []⟩) rfl
  have c2 := OC.c2
  simp only [Nat.zero_mul, Nat.add_zero] at c2
  clear OC hr3 hb3
  rw [show errV 0 = Value.nilIface from rfl]
  go_wp2_with fail
  refine (same_ok 0 .nilIface rfl _).mono ?_
  rintro e wx ⟨rfl, rfl⟩
  go_wp2_with fail
  refine (same_ok 0 .nilIface rfl _).mono ?_
  rintro e wx ⟨rfl, rfl⟩
  go_wp2_with fail
  go_ret
  exact ⟨rfl, hbb3⟩

set_option maxHeartbeats 16000000 in
set_option maxRecDepth 100000 in
theorem bookSays_any (v : Value) (qs : List Pq) (s : ByteArray) (w : World) (HS : Hid (Shapes w)) (h1 : 1 < w.heap.size) (HM : Hid (RefNames w)) (HR : Hid (RdQ w v qs)) (hs : s.size ≤ 9223372036854775807) :
    Calls Tryd.prog 3 #[v, .string s] w fun e w' => e = .returned (.bool true) ∧ Below w.heap.size w w' := by
  obtain ⟨a, cap, hv, hl0, hcap⟩ := HR.out.shape
  obtain ⟨n, HN⟩ : ∃ n, Hid (qs.length = n) := ⟨_, (rfl : _ = _)⟩
  rw [HN.out] at hv hl0
  subst hv
  go_enter Tryd.func3, Tryd.ntmps3
  go_wp2_with fail
  refine (books_any w HS h1).mono ?_
  rintro e w1 ⟨rfl, hb1⟩
  go_wp2_with fail
  refine (lightOps_any (.slice a n cap) qs w1 (HR.out.on hb1)).mono ?_
  rintro e w2 ⟨lb, rfl, hlq, hb2⟩
  have hbb2 := hb1.trans (hb2.mono hb1.size)
  clear hb1 hb2
  cases lb with
  | false =>
    go_wp2_with fail
    go_ret
    exact ⟨rfl, hbb2⟩
  | true =>
  have HLQ := hid_of3 (hlq rfl)
  clear hlq
  by_cases hs5 : (5000 : Int) < (s.size : Int)
  · go_wp2_with fail
    go_ret
    exact ⟨rfl, hbb2⟩
  have hps : ∀ j, j < qs.length → (qs.getD j pq0).ps.length ≤ 1000 := fun j hj => by have := HLQ.out.pix j hj; omega
  have hqn : qs.length ≤ 1000 := by have := HLQ.out.few; omega
  have HPS := hid_of3 hps
  have HQN := hid_of3 hqn
  clear hps hqn
  obtain ⟨c, HC⟩ : ∃ c, Hid (bkC qs = c) := ⟨_, (rfl : _ = _)⟩
  obtain ⟨nv, hN1, hN2⟩ := book_uni qs
  rw [HC.out] at hN1 hN2
  have HN1 := hid_of3 hN1
  have HN2 := hid_of3 hN2
  clear hN1 hN2
  obtain ⟨r, HRR⟩ : ∃ r, Hid (bookOf s.data.toList = r) := ⟨_, (rfl : _ = _)⟩
  have hpx := bookOf_px s.data.toList
  rw [HRR.out] at hpx
  have HPX := hid_of3 (px_get hpx)
  clear hpx
  go_wp2_with fail
  refine (bookFault_any (.slice a n cap) qs w2 (HR.out.on hbb2) HPS.out HQN.out c HC).mono ?_
  rintro e w3 ⟨rfl, hb3⟩
  have hbb3 := hbb2.trans (hb3.mono hbb2.size)
  clear hb3 hbb2
  go_wp2_with fail
  refine (bookBytes_any (.slice a n cap) qs w3 (HS.out.on h1 hbb3) (Nat.lt_of_lt_of_le h1 hbb3.size) (HR.out.on hbb3) HPS.out HQN.out).mono ?_
  intro e w4 he
  obtain ⟨rfl, hb4⟩ := HN1.out _ _ _ he
  have hbb4 := hbb3.trans (hb4.mono hbb3.size)
  clear he hb4 hbb3
  obtain ⟨ev, HEV⟩ : ∃ ev, Hid (errV c = ev) := ⟨_, (rfl : _ = _)⟩
  rw [HEV.out]
  go_wp2_with fail
  refine (bookBytesR_any (.slice a n cap) qs w4 (HM.out.on hbb4) (HR.out.on hbb4) HPS.out HQN.out).mono ?_
  intro e w5 he
  obtain ⟨rfl, hb5⟩ := HN2.out _ _ _ he
  have hbb5 := hbb4.trans (hb5.mono hbb4.size)
  clear he hb5 hbb4 HN1 HN2
  have hp1 := bookParse_any s w5 (HS.out.on h1 hbb5) (Nat.lt_of_lt_of_le h1 hbb5.size) (by omega)
  have hp2 := fun X (h : Hid (RefNames X)) => bookOfR_any s X h hs
  rw [HRR.out] at hp1 hp2
  have HP2 := hid_of3 hp2
  clear hp2
  go_wp2_with fail
  refine hp1.mono ?_
  clear hp1
  rintro e w6 ⟨x, rfl, hx, hb6⟩
  have hbb6 := hbb5.trans (hb6.mono hbb5.size)
  have HX6 := hid_of3 hx
  clear hb6 hbb5 hx
  obtain ⟨ev2, HEV2⟩ : ∃ ev, Hid (errV r.2 = ev) := ⟨_, (rfl : _ = _)⟩
  rw [HEV2.out]
  go_wp2_with fail
  refine (HP2.out w6 (HM.out.on hbb6)).mono ?_
  rintro e w7 ⟨y, rfl, hy, hb7⟩
  have hbb7 := hbb6.trans (hb7.mono hbb6.size)
  have HX7 := hid_of3 (HX6.out.on hb7)
  have HY7 := hid_of3 hy
  clear hb7 hbb6 hy HX6 HP2
  go_wp2_with fail
  refine (bookCheck_any (.slice a n cap) qs w7 (HS.out.on h1 hbb7) (Nat.lt_of_lt_of_le h1 hbb7.size) (HR.out.on hbb7) HPS.out HQN.out c HC).mono ?_
  rintro e w8 ⟨rfl, hb8⟩
  have hbb8 := hbb7.trans (hb8.mono hbb7.size)
  have HX8 := hid_of3 (HX7.out.on hb8)
  have HY8 := hid_of3 (HY7.out.on hb8)
  clear hb8 hbb7 HX7 HY7
  rw [HEV.out]
  go_wp2_with fail
  refine (same_ok c ev HEV _).mono ?_
  rintro e wx ⟨rfl, rfl⟩
  go_wp2_with fail
  refine (same_ok c ev HEV _).mono ?_
  rintro e wx ⟨rfl, rfl⟩
  go_wp2_with fail
  refine (sameOps_any x y r.1 w8 HX8 HY8 HPX.out).mono ?_
  rintro e w9 ⟨rfl, hb9⟩
  have hbb9 := hbb8.trans (hb9.mono hbb8.size)
  clear hb9 hbb8 HX8 HY8
  go_wp2_with fail
  refine (same_ok r.2 ev2 HEV2 _).mono ?_
  rintro e wx ⟨rfl, rfl⟩
  by_cases hc0 : (0 : Int) < (c : Int)
  · go_wp2_with fail
    go_ret
    exact ⟨rfl, hbb9⟩
  obtain rfl : c = 0 := by omega
  have HBK : Hid (Book qs) := book_of HC.out
  have hn60 : n ≤ 60 := by have := HBK.out.few; have := HN.out; omega
  have HR9 : Hid (RdQ w9 (.slice a n cap) qs) := HR.out.on hbb9
  go_wp2_with fail
  refine (close_any (.slice a n cap) qs w9 HR9 HQN.out).mono ?_
  rintro e w10 ⟨bm, rfl, hbm, hown, hb10⟩
  have hbb10 := hbb9.trans (hb10.mono hbb9.size)
  have HR10 : Hid (RdQ w10 (.slice a n cap) qs) := HR.out.on hbb10
  have HSZ := hid_of3 (lps_size HBK.out hown)
  obtain ⟨D, HD⟩ : ∃ D, Hid (clD qs qs.length = D) := ⟨_, (rfl : _ = _)⟩
  rw [HD.out, HN.out] at hown HSZ
  have HOWN := hid_of3 hown
  clear hown hb10 hbb9 HR9
  go_wp2_with fail
  go_loopw [16, 17] (fun nv iv wr => ∃ k : Nat, k ≤ n ∧ iv = .int .i64 k ∧ nv = .int .i64 ((lps qs k).length : Nat) ∧ Below w10.heap.size w10 wr) (fun _ i _ => n - (intOf i).toNat)
  case atStart => exact ⟨0, by omega, rfl, rfl, Below.refl _ _⟩
  case round =>
    obtain ⟨k, hk, rfl, rfl, hbr⟩ := hrel
    have hll := lps_len qs k
    by_cases hlt : k < n
    · have hki0 : (0 : Int) ≤ (k : Int) := by omega
      have hki1 : (k : Int) < (n : Int) := by omega
      obtain ⟨q, HX⟩ : ∃ q, Hid (qs.getD k pq0 = q) := ⟨_, (rfl : _ = _)⟩
      have HRr : Hid (RdQ wr (.slice a n cap) qs) := HR10.out.on hbr
      obtain ⟨g, o, ua, mu, uc, rfl, hg, OC, -, -⟩ := HRr.out.at hlt HX
      have c0 := OC.c0
      clear OC
      by_cases hq : q.kind = 12
      · have HL : Hid ((lps qs (k + 1)).length = (lps qs k).length + 1) := by
          unfold Hid
          rw [lps, if_pos (by rw [HX.out]; exact hq)]
          simp
        obtain ⟨j, hclo⟩ := clo_ex HBK.out (by rw [HN.out]; exact hlt) (by rw [HX.out]; exact hq)
        have HCL := hid_of3 hclo
        have HLK : Hid (∀ W, Below w10.heap.size w10 W → (Instr.lookup 39 (.map (some bm)) (.int .i64 (k : Int)) false).run Tryd.prog W = .ok (.int .i64 (j : Int)) W) := by
          intro W hW
          obtain ⟨c', hrun', hat', -⟩ := (map_below HOWN.out hW).lookup_int law_int Tryd.underlying39 Tryd.underlying3 (by kernel_rfl) (keyOf_int_mk Tryd.underlying3 (WalkArith.wf_i64 (n := (k : Int)) (by omega)))
          have hj := clD_at HBK.out qs.length (Nat.le_refl _) k j hclo hclo.on (.lit (.int .i64 0))
          rw [HD.out, hat'] at hj
          simp only [DataW.lit.injEq, Lit.int.injEq, true_and] at hj
          rw [hrun', hj]
        have hrun0 := HLK.out _ hbr.drew
        have hrun1 := HLK.out _ hbr
        have HEN := hid_of3 (fun W (h : Below w10.heap.size w10 W) => endOf_any (.slice (some ⟨g, o, none⟩) n cap) qs k j W (HR10.out.on h) HBK HCL)
        rw [hq] at c0
        clear hclo hq
        go_wp2_with fail
        refine wp_region_held_drew (S := (fun w' => Below w10.heap.size w10 w')) (by kernel_rfl) ?_ (fun hHeld => ?_)
        · exact hbr.drew
        refine wpAnyH_take (i := 0) (oi := ({ dst := some 100, op := Op.move (Operand.tmp 15), type := 39, pos := "law.go:290", after := #[], guard := none } : Oper)) (v := ?_) rfl (by kernel_rfl) (by kernel_rfl) (by kernel_rfl) (fun _ _ _ h => h) (Or.inl ⟨by rfl, ?_⟩) (by assumption) ?_
        rotate_left
        · (intro w hSw; (try dsimp only at hSw); go_simp; try with_reducible rfl)
        try simp only [Act.put, List.setIfInBounds_toArray, List.set_cons_zero, List.set_cons_succ]
        refine wpAnyH_take (i := 1) (oi := ({ dst := some 101, op := Op.move (Operand.tmp 17), type := 3, pos := "law.go:290", after := #[], guard := none } : Oper)) (v := ?_) rfl (by kernel_rfl) (by kernel_rfl) (by kernel_rfl) (fun _ _ _ h => h) (Or.inl ⟨by rfl, ?_⟩) (by assumption) ?_
        rotate_left
        · (intro w hSw; (try dsimp only at hSw); go_simp; try with_reducible rfl)
        try simp only [Act.put, List.setIfInBounds_toArray, List.set_cons_zero, List.set_cons_succ]
        refine wpAnyH_take (i := 2) (oi := ({ dst := some 102, op := Op.lookup 39 (Operand.tmp 100) (Operand.tmp 101) false, type := 3, pos := "law.go:290", after := #[{ on := 0, ground := Ground.data }, { on := 1, ground := Ground.data }], guard := none } : Oper)) (v := ?_) rfl (by kernel_rfl) (by kernel_rfl) (by kernel_rfl) (fun _ _ _ h => h) (Or.inl ⟨by rfl, ?_⟩) (by assumption) ?_
        rotate_left
        · (intro w hSw; (try dsimp only at hSw); have hrun2 := HLK.out _ hSw; go_simp; try with_reducible rfl)
        try simp only [Act.put, List.setIfInBounds_toArray, List.set_cons_zero, List.set_cons_succ]
        refine wpAnyH_take (i := 3) (oi := ({ dst := some 103, op := Op.move (Operand.tmp 0), type := 22, pos := "law.go:290", after := #[], guard := none } : Oper)) (v := ?_) rfl (by kernel_rfl) (by kernel_rfl) (by kernel_rfl) (fun _ _ _ h => h) (Or.inl ⟨by rfl, ?_⟩) (by assumption) ?_
        rotate_left
        · (intro w hSw; (try dsimp only at hSw); go_simp; try with_reducible rfl)
        try simp only [Act.put, List.setIfInBounds_toArray, List.set_cons_zero, List.set_cons_succ]
        refine wpAnyH_take (i := 4) (oi := ({ dst := some 104, op := Op.move (Operand.tmp 17), type := 3, pos := "law.go:290", after := #[], guard := none } : Oper)) (v := ?_) rfl (by kernel_rfl) (by kernel_rfl) (by kernel_rfl) (fun _ _ _ h => h) (Or.inl ⟨by rfl, ?_⟩) (by assumption) ?_
        rotate_left
        · (intro w hSw; (try dsimp only at hSw); go_simp; try with_reducible rfl)
        try simp only [Act.put, List.setIfInBounds_toArray, List.set_cons_zero, List.set_cons_succ]
        refine wpAnyH_ready (rs := [5]) (by kernel_rfl) (by simp) ?_
        refine AllReadyH.cons (o := ({ dst := some 105, op := Op.call { callee := Callee.value (Operand.func 15), args := #[Operand.tmp 103, Operand.tmp 104], argTypes := #[22, 3] }, type := 3, pos := "law.go:290", after := #[{ on := 3, ground := Ground.data }, { on := 4, ground := Ground.data }], guard := none } : Oper)) rfl (fun K_ hK => ?_) AllReadyH.nil
        go_simp
        refine (HEN.out _ hbr.drew).mono ?_
        rintro e w11 ⟨rfl, rfl⟩
        refine hK.out _ _ ?_ (fun hHeld => ?_)
        · exact hbr.drew
        clear hK K_
        try simp only [Act.put, List.setIfInBounds_toArray, List.set_cons_zero, List.set_cons_succ]
        refine wpAnyH_take (i := 6) (oi := ({ dst := some 106, op := Op.binOp BinOp.neq 3 (Operand.tmp 102) (Operand.tmp 105) 3, type := 4, pos := "law.go:290", after := #[{ on := 2, ground := Ground.data }, { on := 5, ground := Ground.data }], guard := none } : Oper)) (v := ?_) rfl (by kernel_rfl) (by kernel_rfl) (by kernel_rfl) (fun _ _ _ h => h) (Or.inl ⟨by rfl, ?_⟩) (by assumption) ?_
        rotate_left
        · (intro w hSw; (try dsimp only at hSw); go_simp; try with_reducible rfl)
        try simp only [Act.put, List.setIfInBounds_toArray, List.set_cons_zero, List.set_cons_succ]
        refine wpAnyH_done (by kernel_rfl) ?_ _
        go_wp2_with fail
        go_roundw
        case rel => exact ⟨k + 1, by omega, by go_num, by rw [HL.out]; go_num, hbr.drew⟩
        case measure => simp [intOf]; omega
      · have HL : Hid ((lps qs (k + 1)).length = (lps qs k).length) := by
          unfold Hid
          rw [lps, if_neg (by rw [HX.out]; exact hq)]
        have hqb : (q.kind == 12) = false := by simpa using hq
        clear hq
        go_wp2_with fail
        go_roundw
        case rel => exact ⟨k + 1, by omega, by go_num, by rw [HL.out], hbr⟩
        case measure => simp [intOf]; omega
    · obtain rfl : k = n := by omega
      have hki : ¬ (k : Int) < (k : Int) := by omega
      have hee : (((lps qs k).length : Nat) : Int) = ((Maps.size D : Nat) : Int) := by rw [HSZ.out]
      go_wp2_with (first | (at_len; refine wpList_len_own _ rfl _ _ rfl _ _ Tryd.underlying39 _ bm k _ rfl (map_below HOWN.out hbr) ?_) | fail)
      go_ret
      exact ⟨rfl, hbb10.trans (hbr.mono hbb10.size)⟩
end Go.Proofs.YtceabiodelfdoaaDoor
