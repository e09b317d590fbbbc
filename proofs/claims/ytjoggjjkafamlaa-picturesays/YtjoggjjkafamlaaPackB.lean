/- Walk of pack.Unpack. -/
import Derived.Test.YtjoggjjkafamlaaPackA
import Derived.Laws.IdiomStrings
namespace Go.Proofs.Ytjoggjjkafamlaa
open Go.RowKit

theorem Try.infoByte : (Try.prog.info? 5).map (fun i => (i.zero, i.size, i.bytes)) = some (some (.int .u8 0), 1, 1) := by kernel_rfl

/-- a byte as a value -/
def bv (b : UInt8) : Value := .int .u8 (b.toNat : Int)

/-- the string of the bytes l -/
def str (l : List UInt8) : Value := .string ⟨l.toArray⟩

theorem bv_one (l : List UInt8) : ∀ u ∈ l.map bv, u.oneCell' = true := by
  intro u hu
  simp only [List.mem_map] at hu
  obtain ⟨b, _, rfl⟩ := hu
  rfl

/-- a row of bytes that the call owns, made a text -/
theorem run_str {w : World} {B : Nat} {v : Value} {l : List UInt8} (h : w.ownsRow B 5 1 v l.length (l.map bv)) :
    (convert 54 9 v).run Try.prog w = .ok (str l) w := by
  rcases h.2 with ⟨rfl, h0⟩ | ⟨g, cap, cur, rfl, hb, hg, hn, hm, hs, ht⟩
  · have : l = [] := List.eq_nil_of_length_eq_zero h0
    subst this
    rw [run_convert_bytes_nil w 54 5 Try.underlying54 Try.underlying5 0 0 9 Try.underlying9]
    rfl
  · refine run_convert_bytes_back w 54 9 5 ⟨g, 0, none⟩ cap l Try.underlying54 Try.underlying5 Try.underlying9 ?_
    intro j hj
    have := h.cells (g := g) rfl j (bv l[j]) (by simp [hj])
    exact this

theorem unp_step (l : List UInt8) (k : Nat) (c : UInt8) (hc : Hid (l.getD (2 * k) 0 = c)) (m : Nat) (hm : Hid (c.toNat = m)) (d : UInt8) (hd : Hid (l.getD (2 * k + 1) 0 = d)) (h : 2 * k + 1 < l.length) :
    Fb.unp (l.drop (2 * k)) = List.replicate m d ++ Fb.unp (l.drop (2 * (k + 1))) := by
  rw [drop_two l k h, Fb.unp, hc.out, hd.out, hm.out]

theorem unp_end (l : List UInt8) (k : Nat) (h : l.length ≤ 2 * k) : Fb.unp (l.drop (2 * k)) = [] := by
  rw [List.drop_eq_nil_of_le h]; rfl

theorem own_snoc {w' : World} {B : Nat} {v' : Value} {o : List UInt8} {d : UInt8} (h : w'.ownsRow B 5 1 v' (o.length + 1) (o.map bv ++ [bv d])) : w'.ownsRow B 5 1 v' (o ++ [d]).length ((o ++ [d]).map bv) := by
  simpa using h

theorem one_new (w : World) (d : UInt8) : ∀ j u, [bv d][j]? = some u → (w.alloc (.cells #[.int .u8 (d.toNat : Int)] 5)).cell? ((⟨w.heap.size, 0, none⟩ : Addr).add j) = some u := by
  intro j u hj
  match j, hj with
  | 0, hj => simp at hj; subst hj; simp [Addr.add, bv]
  | j + 1, hj => simp at hj

/-- behind an append to a row that the call owns all below is as it was -/
theorem below_app {w wr w2 : World} {v : Value} {n : Nat} {xs : List Value} {e : TypeId} {size : Nat} {ob : Obj} (hb : Below w.heap.size w wr) (hown : wr.ownsRow w.heap.size e size v n xs) (hg : (wr.alloc ob).grownBy w2 v.ownBlock) : Below w.heap.size w w2 := by
  refine (hb.alloc hb.size ob).grown hg (by have := hb.size; simp; omega) ?_
  intro k hk
  exact (hown.lt k hk).1

theorem size_at (s : ByteArray) (most : Int) (w : World) (hs : s.size ≤ 1000000) (hm0 : -9223372036854775808 ≤ most) (hm1 : most ≤ 9223372036854775807) (tot code : Nat) (v : Value) (HZ : Hid (Fb.szAll s.data.toList most = (tot, code))) (HV : Hid (errV code = v)) :
    Calls Try.prog 25 #[.string s, .int .i64 most] w fun e w' => e = .returned (.tuple #[.int .i64 tot, v]) ∧ w = w' := by
  have h := size_any s most w hs hm0 hm1
  rw [HZ.out] at h
  rw [← HV.out]
  exact h

/-- each pair's bytes fit into the sum -/
theorem sz_tot (most : Int) : ∀ (k : Nat) (l : List UInt8) (t tot : Nat), l.length = 2 * k → Fb.sz most l t = (tot, 0) → tot = t + (Fb.unp l).length := by
  intro k
  induction k with
  | zero => intro l t tot hl h; have : l = [] := List.eq_nil_of_length_eq_zero (by omega); subst this; simp [Fb.sz] at h; simp [Fb.unp, h]
  | succ k ih =>
    intro l t tot hl h
    match l, hl with
    | a :: b :: r, hl =>
      rw [Fb.sz] at h
      split at h
      · simp at h
      · split at h
        · simp at h
        · have := ih r _ _ (by simp at hl; omega) h
          simp [Fb.unp]; omega
    | [], hl => simp at hl
    | [_], hl => simp at hl; omega

set_option maxHeartbeats 1000000 in
theorem unpack_any (s : ByteArray) (most : Int) (w : World) (hs : s.size ≤ 1000000) (hm0 : -9223372036854775808 ≤ most) (hm1 : most ≤ 9223372036854775807) :
    Calls Try.prog 8 #[.string s, .int .i64 most] w fun e w' => e = .returned (.tuple #[str (Fb.unpack s.data.toList most).1, errV (Fb.unpack s.data.toList most).2]) ∧ Below w.heap.size w w' := by
  obtain ⟨i0, hi, hz0, hz1, hz2⟩ := info_parts Try.infoByte
  obtain ⟨z, HZ⟩ : ∃ z, Hid (Fb.szAll s.data.toList most = z) := ⟨_, (rfl : _ = _)⟩
  obtain ⟨tot, code⟩ := z
  have HL : Hid (s.data.toList.length = s.size) := by unfold Hid; simp
  by_cases hcode : code = 0
  · subst hcode
    have HU : Hid (Fb.unpack s.data.toList most = (Fb.unp s.data.toList, 0)) := by unfold Hid Fb.unpack; rw [HZ.out, if_pos rfl]
    have hev : s.size % 2 = 0 := by
      have h := HZ.out; unfold Fb.szAll at h; rw [HL.out] at h
      split at h
      · simp at h
      · omega
    have HT : Hid (tot = (Fb.unp s.data.toList).length) := by
      have h := HZ.out; unfold Fb.szAll at h; rw [HL.out, if_neg (by omega)] at h
      have := sz_tot most (s.size / 2) _ 0 tot (by rw [HL.out]; omega) h
      unfold Hid; omega
    have htot : tot ≤ 255 * 500000 := by
      rw [HT.out]
      have := Fb.unp_len s.data.toList (s.size / 2) (by rw [HL.out]; omega)
      omega
    go_enter Try.func8, Try.ntmps8
    go_wp2_with fail
    refine (size_at s most _ hs hm0 hm1 tot 0 .nilIface HZ rfl).mono ?_
    rintro e w' ⟨rfl, rfl⟩
    go_wp2_with (at_make; refine wpList_make_own _ rfl _ _ 54 rfl w.heap.size 5 i0 (.int .u8 0) 1 Try.underlying54 hi hz0 hz1 _ _ _ tot rfl rfl rfl ?b1 ?b2 ?b3 ?_)
    case b1 => rw [hz2]; omega
    case b2 => unfold maxLen; omega
    case b3 => exact Nat.le_refl _
    intro w1 hown1 hgrow1
    have hb1 : Below w.heap.size w w1 := (Below.refl _ _).grown hgrow1 (Nat.le_refl _) (by intro k hk; cases hk)
    clear hgrow1
    go_wp2
    go_loopw [8, 24] (fun v i wr => ∃ (k : Nat) (o : List UInt8), 2 * k ≤ s.size ∧ i = .int .i64 k ∧ wr.ownsRow w.heap.size 5 1 v o.length (o.map bv) ∧ Below w.heap.size w wr ∧ o.length ≤ 255 * k ∧ Hid (Fb.unp s.data.toList = o ++ Fb.unp (s.data.toList.drop (2 * k)))) (fun _ i _ => s.size - (intOf i).toNat)
    case atStart => exact ⟨0, [], by omega, rfl, hown1, hb1, by simp, rfl⟩
    case round =>
      obtain ⟨k, o, hk, rfl, hown, hb, ho, HK⟩ := hrel
      by_cases hlt : 2 * k < s.size
      · have hL := HL.out
        have hk1 : 2 * k + 1 < s.data.toList.length := by omega
        clear hL
        obtain ⟨c, HC⟩ : ∃ c, Hid (s.data.toList.getD (2 * k) 0 = c) := ⟨_, (rfl : _ = _)⟩
        obtain ⟨m, HM⟩ : ∃ m, Hid (c.toNat = m) := ⟨_, (rfl : _ = _)⟩
        obtain ⟨d, HD⟩ : ∃ d, Hid (s.data.toList.getD (2 * k + 1) 0 = d) := ⟨_, (rfl : _ = _)⟩
        have hix := nat_at s (2 * k) c HC m HM
        have hix2 := byte_at s (2 * k + 1) d HD
        have hlt2 : 2 * k + 1 < s.size := by omega
        have hcb := byte_le c m HM
        have HST : Hid (Fb.unp (s.data.toList.drop (2 * k)) = List.replicate m d ++ Fb.unp (s.data.toList.drop (2 * (k + 1)))) := unp_step _ k c HC m HM d HD hk1
        clear hk1
        obtain ⟨wo, rfl⟩ : ∃ wo : World, wo = wr := ⟨_, rfl⟩
        go_wp2
        go_loopw [8, 32] (fun v i wr => ∃ (j : Nat) (oj : List UInt8), j ≤ m ∧ i = .int .i64 j ∧ wr.ownsRow w.heap.size 5 1 v oj.length (oj.map bv) ∧ Below w.heap.size w wr ∧ Hid (oj = o ++ List.replicate j d)) (fun _ i _ => m - (intOf i).toNat)
        case atStart => exact ⟨0, o, by omega, rfl, hown, hb, (List.append_nil o).symm⟩
        case round =>
          obtain ⟨j, oj, hj, rfl, hownj, hbj, HJ⟩ := hrel
          have hoj : oj.length = o.length + j := by rw [HJ.out]; simp
          have hoj2 : oj.length ≤ 255 * k + 255 := by omega
          clear hoj
          by_cases hjm : j < m
          · go_wp2_with (at_builtin; refine wpList_append_own _ rfl _ _ 54 rfl w.heap.size 5 i0 (.int .u8 0) 1 1 Try.underlying54 hi hz0 hz1 hz2 rfl (by decide) _ _ _ rfl (hownj.alloc _) ⟨wr.heap.size, 0, none⟩ 1 1 [bv d] rfl rfl ?c1 ?c2 ?c3 ?c4 ?c5 ?_)
            case c1 => exact one_new _ _
            case c2 => exact bv_one [d]
            case c3 => unfold maxLen; omega
            case c4 => omega
            case c5 => have := hbj.size; simp; omega
            · intro v' w2 hown' hgrow _
              have hb2 : Below w.heap.size w w2 := below_app hbj hownj hgrow
              have hown2 := own_snoc hown'
              clear hown' hgrow
              go_wp2
              go_roundw
              case rel => exact ⟨j + 1, oj ++ [d], by omega, by go_num, hown2, hb2, by unfold Hid; rw [HJ.out, List.replicate_succ', List.append_assoc]⟩
              case measure => simp [intOf]; omega
          · have hje : j = m := by omega
            subst hje
            go_wp2
            go_roundw
            case rel => exact ⟨k + 1, oj, by omega, by go_num, hownj, hbj, by omega, by unfold Hid; rw [HK.out, HST.out, HJ.out, List.append_assoc]⟩
            case measure => simp [intOf]; omega
      · have hst := run_str hown
        go_wp2
        go_ret2
        exact ⟨ret2 (by rw [HU.out, HK.out, unp_end _ _ (by rw [HL.out]; omega), List.append_nil]; rfl) (by rw [HU.out]; rfl), hb⟩
  · have HU : Hid (Fb.unpack s.data.toList most = ([], code)) := by unfold Hid Fb.unpack; rw [HZ.out, if_neg hcode]
    have HE : Hid (errV code = .iface 57 (.int .i64 (code : Int))) := by unfold Hid errV; rw [if_neg hcode]
    go_enter Try.func8, Try.ntmps8
    go_wp2_with fail
    refine (size_at s most _ hs hm0 hm1 tot code _ HZ HE).mono ?_
    rintro e w' ⟨rfl, rfl⟩
    go_wp2_with fail
    go_ret2
    exact ⟨by rw [HU.out, HE.out]; rfl, Below.refl _ _⟩
end Go.Proofs.Ytjoggjjkafamlaa
