/- Walk of the law TopClose. -/
import Derived.Test.YtbdgcomjhblnfaaDoorM10
import Derived.Test.YtbdgcomjhblnfaaDoorTopFuelWJ
import Derived.Maps.RangeWalk
import Derived.Maps.OwnSet
import Derived.Sort.KeysCollected
namespace Go.Proofs.YtbdgcomjhblnfaaDoor
open Go.RowKit Go.Maps Go.Maps

/-- the keys met so far -/
structure Coll (D : DataW Unit) (left : Lit → Bool) (ks : List Int) : Prop where
  nodup : ks.Nodup
  mem : ∀ x : Int, x ∈ ks ↔ (has D (.int .i64 x) = true ∧ left (.int .i64 x) = false)
theorem Coll.start (D : DataW Unit) : Coll D (has D) [] := ⟨List.nodup_nil, fun x => by cases has D (.int .i64 x) <;> simp⟩
theorem Coll.step {D : DataW Unit} {left : Lit → Bool} {ks : List Int} (h : Coll D left ks) {x : Int} {y : DataW Unit} (hlk : left (.int .i64 x) = true) (hat : ∀ zd, D.atKey (.int .i64 x) zd = y) : Coll D (fun z => left z && !z.sameKey (.int .i64 x)) (ks ++ [x]) := by
  have hhas : has D (.int .i64 x) = true := has_true_of_atKey hat
  have hnew : x ∉ ks := fun hx => by have := ((h.mem x).1 hx).2; rw [hlk] at this; cases this
  refine ⟨List.nodup_append.2 ⟨h.nodup, by simp, fun a ha b hb => by simp at hb; subst hb; exact fun e => hnew (e ▸ ha)⟩, fun y => ?_⟩
  by_cases hy : y = x
  · subst hy; simp [hhas, Lit.sameKey]
  · simp [h.mem y, hy, Lit.sameKey]
def intL : Lit → Int
  | .int _ x => x
  | _ => 0
theorem perm_ints {es : List (Lit × DataW Unit)} (hp : es.Pairwise (fun p q => p.1 ≠ q.1)) (hk : ∀ p ∈ es, ∃ x, p.1 = .int .i64 x) {ss : List Int} (hnd : ss.Nodup) (hm : ∀ x, x ∈ ss ↔ has (.map es) (.int .i64 x) = true) :
    ss.Perm (es.map fun p => intL p.1) := by
  refine (List.perm_ext_iff_of_nodup hnd ?_).2 fun x => ?_
  · show (es.map fun p => intL p.1).Nodup
    refine List.pairwise_map.2 (hp.imp_of_mem fun {p q} hp' hq' hne e => hne ?_)
    obtain ⟨a, ha⟩ := hk p hp'
    obtain ⟨b, hb⟩ := hk q hq'
    rw [ha, hb] at e ⊢
    exact congrArg _ e
  · rw [hm x, has_eq, List.any_eq_true]
    show _ ↔ x ∈ es.map fun p => intL p.1
    rw [List.mem_map]
    constructor
    · rintro ⟨p, hp', hs⟩
      obtain ⟨a, ha⟩ := hk p hp'
      rw [ha] at hs
      exact ⟨p, hp', by rw [ha]; simpa [Lit.sameKey, intL] using hs⟩
    · rintro ⟨p, hp', rfl⟩
      obtain ⟨a, ha⟩ := hk p hp'
      exact ⟨p, hp', by rw [ha]; simp [Lit.sameKey, intL]⟩
theorem Coll.len {D : DataW Unit} {left : Lit → Bool} {ks : List Int} {R : Value → Option (DataW Unit × List MemPlace)} {w : World} {b n : Nat} (h : Coll D left ks) (hown : w.ownsMap Tryd.prog 3 R b n D) (hl : ∀ kl, left kl = false) : ks.length = size D := by
  obtain ⟨es, hD, hpw, _⟩ := hown.entries law_int
  obtain ⟨es', hD', hko⟩ := hown.keysOf
  obtain rfl : es = es' := by rw [hD] at hD'; simpa using hD'
  subst hD
  have := perm_ints hpw (fun p hp => by obtain ⟨v, hv⟩ := hko p hp; obtain ⟨x, _, hx, _⟩ := Maps.keyOf_int_inv Tryd.underlying3 hv; exact ⟨x, hx⟩) h.nodup (fun x => by rw [h.mem x, hl]; simp)
  rw [this.length_eq, List.length_map, size_eq]
set_option maxHeartbeats 8000000 in
set_option maxRecDepth 100000 in
theorem topClose_any (v : Value) (qs : List Pq) (w : World) (HS : Hid (Shapes w)) (h1 : 0 < w.heap.size) (HR : Hid (RdQ w v qs)) :
    Calls Tryd.prog 10 #[v] w fun e w' => e = .returned (.bool true) ∧ Below w.heap.size w w' := by
  obtain ⟨va, vc, hv, _, _⟩ := HR.out.shape
  obtain ⟨n, HN⟩ : ∃ n, Hid (qs.length = n) := ⟨_, (rfl : _ = _)⟩
  rw [HN.out] at hv
  subst hv
  go_enter Tryd.func10, Tryd.ntmps10
  go_wp2_with fail
  refine (works_any _ HS h1).mono ?_
  rintro e w1 ⟨rfl, hb1⟩
  have HS1 : Hid (Shapes w1) := HS.out.on h1 hb1
  have h11 := Nat.lt_of_lt_of_le h1 hb1.size
  have HQ1 : Hid (RdQ w1 (.slice va n vc) qs) := HR.out.on hb1
  go_wp2_with fail
  refine (may_any _ qs _ HS1 h11 HQ1).mono ?_
  rintro e w2 ⟨bm2, rfl, hm2, hb2⟩
  have hbb2 := hb1.trans (hb2.mono hb1.size)
  clear HS1 h11 hb2 HQ1
  cases bm2 with
  | false =>
    go_wp2_with fail
    go_ret
    exact ⟨rfl, hbb2⟩
  | true =>
    have HMY := hid_of2 (hm2 rfl)
    clear hm2
    have HBK : Hid (Book qs) := book_of HMY.out.ok
    have HQ2 : Hid (RdQ w2 (.slice va n vc) qs) := HR.out.on hbb2
    have hn60 : n ≤ 60 := by have := HBK.out.few; have := HN.out; omega
    go_wp2_with fail
    refine (close_any _ qs _ HQ2 (by have := HBK.out.few; omega)).mono ?_
    rintro e w3 ⟨bm, rfl, hbm, hown3, hb3⟩
    have hbb3 := hbb2.trans (hb3.mono hbb2.size)
    have HR3 : Hid (RdQ w3 (.slice va n vc) qs) := HR.out.on hbb3
    obtain ⟨D, HD⟩ : ∃ D, Hid (clD qs qs.length = D) := ⟨_, (rfl : _ = _)⟩
    rw [HD.out, HN.out] at hown3
    have hsz := hown3.size_le
    clear hbb2 HQ2 hb3
    go_wp2_with (first | (at_range; refine wpList_range_own _ rfl _ 54 rfl 3 3 law_int Tryd.underlying54 _ bm n _ rfl hown3 ?_; intro w4 hrg0 hg0 hs0) | fail)
    go_frame
    have hb40 : Below w3.heap.size w3 w4 := (Below.refl _ _).grown hg0 (by omega) (fun j hj => by cases hj)
    go_loopw [5] (fun nv wr => ∃ (left : Lit → Bool) (cnt : Nat) (ks : List Int), nv = .int .i64 (ks.length : Nat) ∧ ks.length + cnt ≤ n ∧ Hid (Coll D left ks) ∧ wr.ranges Tryd.prog 3 (plainElem Tryd.prog 3) bm w3.heap.size n D left cnt ∧ Below w3.heap.size w3 wr) (fun _ wr => wr.rangeLeft bm w3.heap.size)
    case atStart => exact ⟨_, _, [], rfl, by simpa using hsz, Coll.start D, hrg0, hb40⟩
    case round =>
      clear hrg0 hb40 hg0 hs0
      obtain ⟨left, cnt, ks, rfl, hcs, HC, hrg, hbr⟩ := hrel
      go_wp2_with (first | (at_next; refine wpList_next_ranges_ii _ rfl _ rfl 3 3 .i64 .i64 law_int Tryd.underlying3 Tryd.underlying3 bm w3.heap.size n _ _ _ rfl hrg ?_ ?_) | fail)
      · intro hc0 hl0
        have hle := HC.out.len hrg.owns hl0
        have hee : (((ks.length : Nat) : Int) == ((Maps.size D : Nat) : Int)) = true := by rw [hle]; simp
        go_wp2_with (first | (at_len; refine wpList_len_own _ rfl _ _ rfl _ _ Tryd.underlying54 _ bm n _ rfl hrg.owns ?_) | fail)
        go_ret
        exact ⟨rfl, hbb3.trans (hbr.mono hbb3.size)⟩
      · intro x c w5 cnt1 hwx hwc hlx hat hrg1 hlt hg1 hs1 hen
        have hc2 := HC.out.step hlx hat
        have hhas : has D (.int .i64 x) = true := has_true_of_atKey hat
        obtain ⟨p, j, hx, hclo, hj⟩ : ∃ p j : Nat, Lit.int .i64 x = .int .i64 (p : Int) ∧ Clo qs p j ∧ j < qs.length := clD_has HBK.out qs.length (Nat.le_refl _) _ (by rw [HD.out]; exact hhas)
        simp only [Lit.int.injEq, true_and] at hx
        subst hx
        have hjv := hat (.lit (.int .i64 0))
        rw [← HD.out, clD_at HBK.out qs.length (Nat.le_refl _) p j hclo hj] at hjv
        simp only [DataW.lit.injEq, Lit.int.injEq, true_and] at hjv
        subst hjv
        have HCL := hid_of2 hclo
        have HC2 := hid_of2 hc2
        have hpj := hclo.lt
        have hjn : j < n := by rw [← HN.out]; exact hj
        have hp1 : 1 ≤ p := by
          rcases Nat.eq_zero_or_pos p with rfl | h
          · have := (HBK.out.head 0 (by omega)).2 rfl
            have := hclo.loop
            omega
          · exact h
        have hb5 : Below w3.heap.size w3 w5 := hbr.grown hg1 (by have := hbr.size; omega) (fun j hj => by cases hj; exact Nat.le_refl _)
        have HR5 : Hid (RdQ w5 (.slice va n vc) qs) := HR3.out.on hb5
        obtain ⟨qp, HXP⟩ : ∃ q, Hid (qs.getD p pq0 = q) := ⟨_, (rfl : _ = _)⟩
        obtain ⟨qj, HXJ⟩ : ∃ q, Hid (qs.getD j pq0 = q) := ⟨_, (rfl : _ = _)⟩
        obtain ⟨g, o, _, _, _, rfl, hg, OC, _, _⟩ := HR5.out.at (k := p) (by omega) HXP
        have p0 := OC.c0
        obtain ⟨g', o', _, _, _, hgo, _, OJ, _, _⟩ := HR5.out.at (k := j) hjn HXJ
        simp only [Option.some.injEq, Addr.mk.injEq, and_true] at hgo
        obtain ⟨rfl, rfl⟩ := hgo
        have j0 := OJ.c0
        have hkp : qp.kind = 12 := by rw [← HXP.out]; exact hclo.loop
        have hkj : qj.kind = 13 := by rw [← HXJ.out]; exact hclo.next
        rw [hkp] at p0
        rw [hkj] at j0
        have c1 : ¬ (p : Int) < 1 := by omega
        have c2 : ¬ (j : Int) ≤ (p : Int) := by omega
        have c3 : ¬ (n : Int) ≤ (j : Int) := by omega
        have c4 : (0 : Int) ≤ (p : Int) := by omega
        have c5 : (p : Int) < (n : Int) := by omega
        have c6 : (0 : Int) ≤ (j : Int) := by omega
        have c7 : (j : Int) < (n : Int) := by omega
        have HME : Hid (w5.rangeLeft bm w3.heap.size < wr.rangeLeft bm w3.heap.size) := by unfold Hid; rw [hrg1.left_eq, hrg.left_eq]; exact hlt
        have HB5 := hid_of2 hb5
        have hl1 : ((ks ++ [(p : Int)]).length : Int) = (ks.length : Int) + 1 := by simp
        have hkl : ks.length + 1 + cnt1 ≤ n := by omega
        have hd1 : dep qs (p + 1) = dep qs p + 1 := by
          rw [dep_succ qs p (by omega)]
          unfold opn
          rw [if_pos hclo.loop]
        clear OC OJ hkp hkj HC hat hhas hc2 hclo hbr hb5 hrg hg1 hs1 hwx hwc hlx
        go_wp2_with fail
        go_loopw [8, 9] (fun dv iv wi => ∃ k d : Nat, p < k ∧ k ≤ j ∧ iv = .int .i64 k ∧ dv = .int .i64 d ∧ Hid ((d : Int) = dep qs k - (dep qs p + 1)) ∧ w5 = wi) (fun _ i _ => j - (intOf i).toNat)
        case atStart => exact ⟨p + 1, 0, by omega, by omega, by go_num, rfl, (by unfold Hid; rw [hd1]; simp), rfl⟩
        case round =>
          obtain ⟨k, d, hk1, hk2, rfl, rfl, HDD, rfl⟩ := hrel
          have hdk := HBK.out.high k (by omega)
          have hdp := HBK.out.low p (by omega)
          have hd3 : d ≤ 3 := by have := HDD.out; omega
          by_cases hlt2 : k < j
          · have hki : (k : Int) < (j : Int) := by omega
            have hki0 : (0 : Int) ≤ (k : Int) := by omega
            have hkn : (k : Int) < (n : Int) := by omega
            obtain ⟨q, HX⟩ : ∃ q, Hid (qs.getD k pq0 = q) := ⟨_, (rfl : _ = _)⟩
            obtain ⟨g', o', _, _, _, hgo, _, OK, _, _⟩ := HR5.out.at (k := k) (by omega) HX
            simp only [Option.some.injEq, Addr.mk.injEq, and_true] at hgo
            obtain ⟨rfl, rfl⟩ := hgo
            have k0 := OK.c0
            have hov := HCL.out.over (k + 1) (by omega) (by omega)
            have hds := dep_succ qs k (by omega)
            rw [HX.out] at hds
            have hdd := HDD.out
            clear OK p0 j0
            rcases opn_cases q with ⟨h12, ho⟩ | ⟨h13, ho⟩ | ⟨h12, h13, ho⟩
            · rw [h12] at k0
              have HD2 : Hid (((d + 1 : Nat) : Int) = dep qs (k + 1) - (dep qs p + 1)) := by unfold Hid; omega
              clear hdk hdp hov hds hdd ho h12
              go_wp2_with fail
              go_roundw
              case rel => exact ⟨k + 1, d + 1, by omega, by omega, by go_num, by go_num, HD2, by first | trivial | rfl⟩
              case measure => simp [intOf]; omega
            · rw [h13] at k0
              obtain ⟨d1, rfl⟩ : ∃ d1, d = d1 + 1 := ⟨d - 1, by omega⟩
              have HD2 : Hid ((d1 : Int) = dep qs (k + 1) - (dep qs p + 1)) := by unfold Hid; omega
              clear hdk hdp hov hds hdd ho h13
              go_wp2_with fail
              go_roundw
              case rel => exact ⟨k + 1, d1, by omega, by omega, by go_num, by go_num, HD2, by first | trivial | rfl⟩
              case measure => simp [intOf]; omega
            · have b12 : (q.kind == 12) = false := by simpa using h12
              have b13 : (q.kind == 13) = false := by simpa using h13
              have HD2 : Hid ((d : Int) = dep qs (k + 1) - (dep qs p + 1)) := by unfold Hid; omega
              clear hdk hdp hov hds hdd ho h12 h13
              go_wp2_with fail
              go_roundw
              case rel => exact ⟨k + 1, d, by omega, by omega, by go_num, rfl, HD2, by first | trivial | rfl⟩
              case measure => simp [intOf]; omega
          · obtain rfl : k = j := by omega
            have hki : ¬ (k : Int) < (k : Int) := by omega
            obtain rfl : d = 0 := by
              have h2 := dep_succ qs k hj
              have h3 := HCL.out.same
              have h4 : opn (qs.getD k pq0) = -1 := by
                unfold opn
                rw [if_neg (by rw [HCL.out.next]; decide), if_pos HCL.out.next]
              have := HDD.out
              omega
            clear hdk hdp
            go_wp2_with fail
            go_roundw
            case rel => exact ⟨_, cnt1, ks ++ [(p : Int)], by first | (rw [hl1]; done) | (rw [hl1]; go_num), by simp only [List.length_append, List.length_singleton]; omega, HC2, hrg1, HB5.out⟩
            case measure => exact HME.out
end Go.Proofs.YtbdgcomjhblnfaaDoor
