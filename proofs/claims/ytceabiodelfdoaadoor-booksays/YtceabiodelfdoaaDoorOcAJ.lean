/- Walk: op.Chunk. -- s1 -/
import Derived.Test.YtceabiodelfdoaaDoorM11
namespace Go.Proofs.YtceabiodelfdoaaDoor
open Go.RowKit

/-- what Chunk answers -/
def ChkP (q : Pq) (w : World) (e : Ending) (w' : World) : Prop :=
  Below w.heap.size w w' ∧ ((∃ c, opC q = c ∧ c ≠ 0 ∧ e = .returned (.tuple #[.agg #[.string ⟨#[]⟩, .string ⟨#[]⟩], errV c])) ∨
    (opC q = 0 ∧ ∃ s, kindAt q.kind shps = some s ∧ e = .returned (.tuple #[.agg #[.string s.bytes, str (opB q s.id s.nums s.pic)], .nilIface])))
/-- what holds on the road -/
structure Goc (w : World) (q : Pq) (ap : Option Addr) (np cp : Nat) (sb : Nat) (s : Shp) (fid : Bool) (w' : World) : Prop where
  nn : Nine w' w.heap.size (.int .i64 q.kind) (.int .i64 q.id) (.int .i64 q.a) (.int .i64 q.b) (.int .i64 q.c) (.int .i64 q.d) (.int .i64 q.pw) (.int .i64 q.ph) (.slice ap np cp)
  tt : Two w' (w.heap.size + 1) (.string ⟨#[]⟩) (.string ⟨#[]⟩)
  ss : Seven w' sb (.int .i64 (s.kind : Int)) (.string s.bytes) (.bool fid) (.int .i64 (s.nums : Int)) (.int .i64 s.low) (.int .i64 s.high) (.bool s.pic)
  rp : RdP w' (.slice ap np cp) q.ps
  bel : Below w.heap.size w w'
section
variable {w : World} {q : Pq} {ap : Option Addr} {np cp sb : Nat} {s : Shp} {fid : Bool} {w1 w2 : World}
theorem Goc.on (h : Goc w q ap np cp sb s fid w1) (hb : Below w1.heap.size w1 w2) : Goc w q ap np cp sb s fid w2 :=
  ⟨h.nn.on hb, h.tt.on hb, h.ss.on hb, h.rp.on hb, h.bel.trans (hb.mono h.bel.size)⟩
theorem Goc.onB {B : Nat} (h : Goc w q ap np cp sb s fid w1) (hb : Below B w1 w2) (hB : w1.heap.size ≤ B) : Goc w q ap np cp sb s fid w2 := h.on (hb.mono hB)
theorem Goc.drew (h : Goc w q ap np cp sb s fid w1) : Goc w q ap np cp sb s fid w1.drew :=
  ⟨h.nn.drew, h.tt.drew, h.ss.drew, h.rp, h.bel.drew⟩
end
set_option maxHeartbeats 8000000 in
set_option maxRecDepth 100000 in
theorem chunkOp_any (q : Pq) (u : Value) (w : World) (HS : Hid (Shapes w)) (h1 : 1 < w.heap.size) (HU : Hid (RdP w u q.ps)) (hps : q.ps.length ≤ 1000000000) :
    Calls Tryd.prog 33 #[opV q u] w fun e w' => ChkP q w e w' := by
  obtain ⟨ap, cp, hv, hl0, hcp, -⟩ := HU.out
  obtain ⟨np, HNP⟩ : ∃ n, Hid (q.ps.length = n) := ⟨_, (rfl : _ = _)⟩
  rw [HNP.out] at hv hl0
  subst hv
  obtain ⟨X0, HX0⟩ : ∃ X0, Hid ((w.alloc (.cells #[.int .i64 q.kind, .int .i64 q.id, .int .i64 q.a, .int .i64 q.b, .int .i64 q.c, .int .i64 q.d, .int .i64 q.pw, .int .i64 q.ph, .slice ap np cp] 45)).alloc (.cells #[.string ⟨#[]⟩, .string ⟨#[]⟩] 66) = X0) := ⟨_, (rfl : _ = _)⟩
  have hbz : Below w.heap.size w X0 := by rw [← HX0.out]; exact ((Below.refl _ _).alloc (Nat.le_refl _) _).alloc (by simp) _
  have N0 : Nine X0 w.heap.size (.int .i64 q.kind) (.int .i64 q.id) (.int .i64 q.a) (.int .i64 q.b) (.int .i64 q.c) (.int .i64 q.d) (.int .i64 q.pw) (.int .i64 q.ph) (.slice ap np cp) := by rw [← HX0.out]; exact (nine_start w _ _ _ _ _ _ _ _ _ 45 w.heap.size rfl).alloc _
  have T0 := hid_of3 (show Two X0 (w.heap.size + 1) (.string ⟨#[]⟩) (.string ⟨#[]⟩) by rw [← HX0.out]; exact two_startB _ _ _ 66 (w.heap.size + 1) (by simp))
  have HS0 : Hid (Shapes X0) := HS.out.on h1 hbz
  have h1' := Nat.lt_of_lt_of_le h1 hbz.size
  have HU0 : Hid (RdP X0 (.slice ap np cp) q.ps) := HU.out.on hbz
  obtain ⟨c, HC⟩ : ∃ c, Hid (opC q = c) := ⟨_, (rfl : _ = _)⟩
  have hck := opCheck_any q (.slice ap np cp) X0 HS0 h1' HU0 hps c HC
  unfold opV at hck ⊢
  obtain ⟨m0, m1, m2, m3, m4, m5, m6, m7, m8, mf0, mf1, mf2, mf3, mf4, mf5, mf6, mf7, mf8, mlt⟩ := N0
  have N0 := hid_of3 (show Nine X0 w.heap.size (.int .i64 q.kind) (.int .i64 q.id) (.int .i64 q.a) (.int .i64 q.b) (.int .i64 q.c) (.int .i64 q.d) (.int .i64 q.pw) (.int .i64 q.ph) (.slice ap np cp) from ⟨m0, m1, m2, m3, m4, m5, m6, m7, m8, mf0, mf1, mf2, mf3, mf4, mf5, mf6, mf7, mf8, mlt⟩)
  go_enter Tryd.func33, Tryd.ntmps33
  go_wp2_with fail
  rw [HX0.out]
  refine hck.mono ?_
  clear hck m0 m1 m2 m3 m4 m5 m6 m7 m8 mf0 mf1 mf2 mf3 mf4 mf5 mf6 mf7 mf8 mlt
  rintro e w1 ⟨rfl, hb1⟩
  have hbb1 := hbz.trans (hb1.mono hbz.size)
  have N1 := hid_of3 (N0.out.on hb1)
  have T1 := hid_of3 (T0.out.on hb1)
  have HU1 := hid_of3 (HU0.out.on hb1)
  have HS1 : Hid (Shapes w1) := HS0.out.on h1' hb1
  have h11 := Nat.lt_of_lt_of_le h1' hb1.size
  have hsz1 : w.heap.size + 2 ≤ w1.heap.size := by
    have h := hb1.size
    have e : X0.heap.size = w.heap.size + 2 := by rw [← HX0.out]; simp
    omega
  clear hbz hb1 N0 T0 HU0 HS0 h1' HX0
  by_cases hc : c = 0
  case neg =>
    have he : errV c = .iface 61 (.int .i64 (c : Int)) := by unfold errV; rw [if_neg hc]
    rw [he]
    obtain ⟨t0, t1, tf0, tf1, tl⟩ := T1.out
    go_wp2_with fail
    refine bodyPost_ret (v := .tuple #[.agg #[.string ⟨#[]⟩, .string ⟨#[]⟩], .iface 61 (.int .i64 (c : Int))]) (by simp [results, Tryd.results33, go_sem, t0, t1]) rfl ⟨?_, .inl ⟨c, HC.out, hc, by rw [he]⟩⟩
    repeat (refine Below.setCell ?_ (by simp) _)
    exact hbb1
  subst hc
  have he : errV 0 = .nilIface := rfl
  rw [he]
  obtain ⟨s, hs⟩ := opC_some HC.out
  have HK := hid_of3 hs
  have HOK := hid_of3 (opC_ok HC.out hs)
  obtain ⟨hs1, hs2⟩ := shps_ok s (kindAt_mem _ _ _ hs).1
  clear hs he
  obtain ⟨m0, m1, m2, m3, m4, m5, m6, m7, m8, -, -, -, -, -, -, -, -, -, -⟩ := N1.out
  go_wp2_with fail
  clear m0 m1 m2 m3 m4 m5 m6 m7 m8
  refine (ofKind_any q.kind w1 HS1 h11).mono ?_
  unfold FindP
  rw [HK.out]
  rintro e w2 ⟨hb2, he⟩
  simp only at he
  subst he
  have hbs : Below w2.heap.size w2 (w2.alloc (.cells #[.int .i64 (s.kind : Int), .string s.bytes, .bool s.id, .int .i64 (s.nums : Int), .int .i64 s.low, .int .i64 s.high, .bool s.pic] 92)) := (Below.refl _ _).alloc (Nat.le_refl _) _
  have S2 := seven_start w2 (.int .i64 (s.kind : Int)) (.string s.bytes) (.bool s.id) (.int .i64 (s.nums : Int)) (.int .i64 s.low) (.int .i64 s.high) (.bool s.pic) 92 w2.heap.size rfl
  have N2 := hid_of3 ((N1.out.on hb2).on hbs)
  have T2 := hid_of3 ((T1.out.on hb2).on hbs)
  have HU2 := hid_of3 ((HU1.out.on hb2).on hbs)
  have hbb2 := (hbb1.trans (hb2.mono hbb1.size)).trans (hbs.mono (hbb1.trans (hb2.mono hbb1.size)).size)
  have hsz2 : w.heap.size + 3 ≤ (w2.alloc (.cells #[.int .i64 (s.kind : Int), .string s.bytes, .bool s.id, .int .i64 (s.nums : Int), .int .i64 s.low, .int .i64 s.high, .bool s.pic] 92)).heap.size := by have := hb2.size; simp; omega
  clear hb2 hbs N1 T1 HU1 HS1 h11 hsz1 hbb1
  have hwid : s.id = true → IntKind.u8.wrap q.id = q.id ∧ bv (UInt8.ofNat q.id.toNat) = .int .u8 q.id := fun h => by
    obtain ⟨i1, i2⟩ := HOK.out.id h
    refine ⟨by rw [IntKind.wrap_u8]; omega, ?_⟩
    unfold bv
    rw [u8_toNat _ (by omega)]
    congr 1; omega
  have HWID := hid_of3 hwid
  clear hwid
  unfold Shp.val
  obtain ⟨fid, HFID⟩ : ∃ b, Hid (s.id = b) := ⟨_, (rfl : _ = _)⟩
  rw [HFID.out] at S2 N2 T2 HU2 hbb2 hsz2 ⊢
  obtain ⟨m0, m1, m2, m3, m4, m5, m6, m7, m8, -, -, -, -, -, -, -, -, -, -⟩ := N2.out
  obtain ⟨s0, s1, s2, s3, s4, s5, s6, sf0, sf1, sf2, sf3, sf4, sf5, sf6, slt⟩ := S2
  have S2 := hid_of3 (show Seven _ _ _ _ _ _ _ _ _ from ⟨s0, s1, s2, s3, s4, s5, s6, sf0, sf1, sf2, sf3, sf4, sf5, sf6, slt⟩)
  clear sf0 sf1 sf2 sf3 sf4 sf5 sf6 slt
  have KG : Hid (∀ W, Below (w2.heap.size + 1) (w2.alloc (.cells #[.int .i64 (s.kind : Int), .string s.bytes, .bool fid, .int .i64 (s.nums : Int), .int .i64 s.low, .int .i64 s.high, .bool s.pic] 92)) W → Goc w q ap np cp w2.heap.size s fid W) := fun W hb =>
    (show Goc w q ap np cp w2.heap.size s fid _ from ⟨N2.out, T2.out, S2.out, HU2.out, hbb2⟩).onB hb (by simp)
  cases fid with
  | true =>
    obtain ⟨hw1, hw2⟩ := HWID.out HFID.out
    obtain ⟨v7, w7, hr7, ho7, hb7, -⟩ := by_app2 (X := w2.alloc (.cells #[.int .i64 (s.kind : Int), .string s.bytes, .bool true, .int .i64 (s.nums : Int), .int .i64 s.low, .int .i64 s.high, .bool s.pic] 92)) (B := w2.heap.size + 1) (ownY_nil _ _) [UInt8.ofNat q.id.toNat] 1 #[.int .u8 q.id] (w2.heap.size + 1) (by rw [← hw2]; rfl) (by simp) rfl (by simp) (by simp)
    have HR7 := hid_of3 hr7
    have HO7 := hid_of3 ho7
    have HG7 := hid_of3 (KG.out w7 hb7)
    have hB7 : w2.heap.size + 1 ≤ w7.heap.size := by have := hb7.size; simpa using this
    clear hr7 ho7 hw2
    go_wp2_with (at_builtin; refine Lib.wpList_append_run _ rfl _ _ _ _ rfl _ _ rfl rfl _ _ HR7.out ?_)
    have HGD := hid_of3 (show Goc w q ap np cp w2.heap.size s true w7.drew from HG7.out.drew)
    have hnum := fun X => numbers_any q (.slice ap np cp) X
    unfold opV at hnum
    have HNUM := hid_of3 hnum
    clear hnum
    have hn4 : (0 : Int) ≤ (s.nums : Int) := by omega
    have hn5 : (s.nums : Int) ≤ 4 := by omega
    have hn6 : s.nums ≤ 4 := hs1
    go_region_held3 (fun w' => w'.cell? ⟨w.heap.size, 0, none⟩ = some (.int .i64 q.kind) ∧ w'.cell? ⟨w.heap.size, 1, none⟩ = some (.int .i64 q.id) ∧ w'.cell? ⟨w.heap.size, 2, none⟩ = some (.int .i64 q.a) ∧ w'.cell? ⟨w.heap.size, 3, none⟩ = some (.int .i64 q.b) ∧ w'.cell? ⟨w.heap.size, 4, none⟩ = some (.int .i64 q.c) ∧ w'.cell? ⟨w.heap.size, 5, none⟩ = some (.int .i64 q.d) ∧ w'.cell? ⟨w.heap.size, 6, none⟩ = some (.int .i64 q.pw) ∧ w'.cell? ⟨w.heap.size, 7, none⟩ = some (.int .i64 q.ph) ∧ w'.cell? ⟨w.heap.size, 8, none⟩ = some (.slice ap np cp) ∧ w'.cell? ⟨w2.heap.size, 3, none⟩ = some (.int .i64 (s.nums : Int)))
      (first
        | exact ⟨HG8.out.nn.c0, HG8.out.nn.c1, HG8.out.nn.c2, HG8.out.nn.c3, HG8.out.nn.c4, HG8.out.nn.c5, HG8.out.nn.c6, HG8.out.nn.c7, HG8.out.nn.c8, HG8.out.ss.c3⟩
        | exact ⟨HGD.out.nn.c0, HGD.out.nn.c1, HGD.out.nn.c2, HGD.out.nn.c3, HGD.out.nn.c4, HGD.out.nn.c5, HGD.out.nn.c6, HGD.out.nn.c7, HGD.out.nn.c8, HGD.out.ss.c3⟩
        | fail)
      (first
        | (go_at_call 55; refine (HNUM.out _).mono ?_; rintro e w8 ⟨g, rfl, hg, hcell, hb8⟩; have HG8 := hid_of3 (HGD.out.on hb8); have HC8 := hid_of3 hcell; have hb8' := hb8; clear hcell)
        | fail)
    clear HGD HNUM
    have hb8D : Below w7.heap.size w7 w8 := (show Below w7.heap.size w7 w7.drew from (Below.refl _ _).drew).trans hb8'
    have hB8 : w2.heap.size + 1 ≤ w8.heap.size := by have h := hb8D.size; have h2 := hB7; omega
    have HO8 := hid_of3 (HO7.out.on hb8D)
    have HR8 := hid_of3 (nums_own (B := w2.heap.size + 1) q HC8.out (Nat.le_trans hB7 hg) s.nums hs1)
    have hbX8 : Below (w2.heap.size + 1) (w2.alloc (.cells #[.int .i64 (s.kind : Int), .string s.bytes, .bool true, .int .i64 (s.nums : Int), .int .i64 s.low, .int .i64 s.high, .bool s.pic] 92)) w8 := hb7.trans (hb8D.mono hB7)
    obtain ⟨l0, HL0⟩ : ∃ l, Hid (idB q.id s.id = l) := ⟨_, (rfl : _ = _)⟩
    have hl0 : l0.length ≤ 1 := by rw [← HL0.out]; exact idB_len _ _
    rw [show [] ++ [UInt8.ofNat q.id.toNat] = l0 by rw [← HL0.out, HFID.out]; rfl] at HO8
    obtain ⟨ns, HNS⟩ : ∃ l, Hid ((nums4 q).take s.nums = l) := ⟨_, (rfl : _ = _)⟩
    obtain ⟨nn, HNN⟩ : ∃ n, Hid (s.nums = n) := ⟨_, (rfl : _ = _)⟩
    have hnl : Hid (ns.length = nn) := by unfold Hid; rw [← HNS.out, ← HNN.out, List.length_take]; simp [nums4]; omega
    have HNB := hid_of3 HOK.out.num
    rw [HNS.out] at HR8 HNB
    have hn7 : nn ≤ 4 := by rw [← HNN.out]; exact hs1
    clear HC8 hb8 hb8' hn4 hn5 hn6 hg hb8D hb7
    rw [HNN.out] at HR8 ⊢
    go_wp2_with fail
    go_loopw [7, 9, 38] (fun d _ i wr => ∃ (k : Nat) (l : List UInt8), k ≤ nn ∧ i = .int .i64 k ∧ Hid (OwnY wr (w2.heap.size + 1) d l) ∧ Hid (l = l0 ++ nsB (ns.take k)) ∧ Hid (wr.ownsRow (w2.heap.size + 1) 3 1 (.slice (some ⟨g, 0, none⟩) nn 4) nn (intCells ns)) ∧ Below (w2.heap.size + 1) (w2.alloc (.cells #[.int .i64 (s.kind : Int), .string s.bytes, .bool true, .int .i64 (s.nums : Int), .int .i64 s.low, .int .i64 s.high, .bool s.pic] 92)) wr) (fun _ _ i _ => nn - (intOf i).toNat)
    case atStart => exact ⟨0, l0, by omega, rfl, HO8, by unfold Hid; simp [nsB], HR8, hbX8⟩
    case round =>
      obtain ⟨k, l, hk, rfl, HO, HLK, HRN, hbr⟩ := hrel
      by_cases hlt : k < nn
      · have hki : (k : Int) < (nn : Int) := by omega
        have hki0 : (0 : Int) ≤ (k : Int) := by omega
        obtain ⟨x, HX⟩ : ∃ x, Hid (ns.getD k 0 = x) := ⟨_, (rfl : _ = _)⟩
        obtain ⟨gg, po, hag, hgl, hcx⟩ := (rdI_own HRN.out hnl.out).at hlt hnl HX
        simp only [Option.some.injEq, Addr.mk.injEq, and_true] at hag
        obtain ⟨rfl, rfl⟩ := hag
        have hxm : x ∈ ns := by rw [← HX.out, List.getD_eq_getElem?_getD, List.getElem?_eq_getElem (by rw [hnl.out]; exact hlt)]; exact List.getElem_mem _
        obtain ⟨hx1, hx2⟩ := HNB.out x hxm
        rw [Nat.zero_add] at hcx
        have hln : l.length ≤ 100 := by
          rw [HLK.out, List.length_append, nsB_len, List.length_take]
          have := hnl.out
          omega
        obtain ⟨N, n0, n1, hn0, hn1, hwx, ee1, ee2, ee3, hnb⟩ := two_parts x hx1 hx2
        have HLK2 : Hid (l ++ [UInt8.ofNat n0, UInt8.ofNat n1] = l0 ++ nsB (ns.take (k + 1))) := by
          unfold Hid
          rw [take_nsB (by rw [hnl.out]; exact hlt) HX.out, hnb, HLK.out, List.append_assoc]
        obtain ⟨vx, wx, hrx, hox, hbx, hkx⟩ := by_app2 (X := wr) (B := w2.heap.size + 1) HO.out [UInt8.ofNat n0, UInt8.ofNat n1] 2 #[.int .u8 (n0 : Int), .int .u8 (n1 : Int)] wr.heap.size (by simp only [List.map_cons, List.map_nil, bv]; rw [u8_toNat n0 hn0, u8_toNat n1 hn1]) rfl rfl (by omega) (Nat.le_trans (by simp) hbr.size)
        have HRX := hid_of3 hrx
        have HOX := hid_of3 hox
        have hbrx := hbr.trans hbx
        have HRNx := hid_of3 (hkx (by decide) HRN.out)
        clear hxm hx1 hx2 hrx hox hnb hbx hln HLK hkx HRN
        go_wp2_with (at_builtin; refine Lib.wpList_append_run _ rfl _ _ _ _ rfl _ _ rfl rfl _ _ HRX.out ?_)
        clear hwx ee1 ee2 ee3 hn0 hn1
        go_roundw
        case rel => exact ⟨k + 1, _, by omega, by go_num, HOX, HLK2, HRNx, hbrx⟩
        case measure => simp [intOf]; omega
      · have hki : ¬ (k : Int) < (nn : Int) := by omega
        obtain rfl : nn = k := by omega
        have HGZ := hid_of3 (KG.out wr hbr)
        have hl1 : l = l0 ++ nsB ns := by rw [HLK.out, List.take_of_length_le (by rw [hnl.out]; exact Nat.le_refl _)]
        have hll : l.length ≤ 100 := by
          rw [hl1, List.length_append, nsB_len]
          have := hnl.out
          omega
        have HL1 := hid_of3 hl1
        clear hl1 HLK HRN
        obtain ⟨fpc, HFPC⟩ : ∃ b, Hid (s.pic = b) := ⟨_, (rfl : _ = _)⟩
        obtain ⟨⟨m0, m1, m2, m3, m4, m5, m6, m7, m8, -, -, -, -, -, -, -, -, -, -⟩, ⟨t0, t1, tf0, tf1, tl⟩, ⟨s0, s1, s2, s3, s4, s5, s6, -, -, -, -, -, -, -, -⟩, -, -⟩ := HGZ.out
        rw [HFPC.out] at s6 ⊢
        cases fpc with
        | false =>
          have HST := hid_of3 (run_str HO.out)
          have hst := HST.out
          have HFIN : Hid (opB q s.id s.nums s.pic = l) := by
            unfold Hid opB pcB
            rw [HL1.out, HFPC.out, HL0.out, HNS.out]
            simp
          unfold str at hst
          go_wp2_with fail
          refine bodyPost_ret (v := .tuple #[.agg #[.string s.bytes, .string ⟨l.toArray⟩], .nilIface]) (by simp [results, Tryd.results33, go_sem, t0, t1]) rfl ⟨?_, .inr ⟨HC.out, s, HK.out, by rw [HFIN.out]; rfl⟩⟩
          repeat (refine Below.setCell ?_ (by simp) _)
          exact HGZ.out.bel
        | true =>
          have hpok := HOK.out.pic HFPC.out
          obtain ⟨PW, PH, e1, e2, -⟩ := check_zero _ _ _ hpok
          rw [e1] at m6
          rw [e2] at m7
          rw [e1, e2] at hpok
          have HCP := hid_of3 hpok
          have HE := hid_of3 (And.intro e1 e2)
          clear hpok e1 e2
          obtain ⟨t, HT⟩ := bytes_of (picBytes PW PH q.ps)
          have hts : t.size ≤ 1000 := by
            have h := picBytes_len PW PH q.ps HCP.out
            obtain ⟨i1, i2, i3, i4, -, -⟩ := check_ok HCP.out
            have h3 : PH * (1 + 2 * PW) ≤ 8 * 17 := Nat.mul_le_mul (by omega) (by omega)
            rw [size_of HT]
            omega
          go_wp2_with fail
          refine (picBytes_at PW PH (.slice ap np cp) q.ps _ HGZ.out.rp HCP t HT).mono ?_
          rintro e wp ⟨rfl, hbp⟩
          have HGP := hid_of3 (HGZ.out.on hbp)
          have HOP := hid_of3 (HO.out.on hbp)
          clear m0 m1 m2 m3 m4 m5 m6 m7 m8 t0 t1 tf0 tf1 tl s0 s1 s2 s3 s4 s5 s6
          obtain ⟨⟨m0, m1, m2, m3, m4, m5, m6, m7, m8, -, -, -, -, -, -, -, -, -, -⟩, ⟨t0, t1, tf0, tf1, tl⟩, ⟨s0, s1, s2, s3, s4, s5, s6, -, -, -, -, -, -, -, -⟩, -, -⟩ := HGP.out
          obtain ⟨vq, wq, hrq, hoq, hbq⟩ := st_app (X := wp) (B := w2.heap.size + 1) HOP.out t (by omega) (Nat.le_trans (by simp) (hbr.trans (hbp.mono (Nat.le_trans (by simp) hbr.size))).size)
          have hbrq := (hbr.trans (hbp.mono (Nat.le_trans (by simp) hbr.size))).trans hbq
          have HGQ := hid_of3 (KG.out wq hbrq)
          have HRQ := hid_of3 hrq
          have HST := hid_of3 (run_str hoq)
          have HFIN : Hid (opB q s.id s.nums s.pic = l ++ t.data.toList) := by
            unfold Hid opB pcB
            rw [HFPC.out, HL0.out, HNS.out, if_pos rfl, HE.out.1, HE.out.2, ← HL1.out, ← HT.out]
            rfl
          clear hrq hoq hbq
          obtain ⟨-, ⟨u0, u1, uf0, uf1, ul⟩, ⟨-, z1, -, -, -, -, -, -, -, -, -, -, -, -, -⟩, -, -⟩ := HGQ.out
          have hst := HST.out
          unfold str at hst
          go_wp2_with (at_builtin; refine Lib.wpList_append_run _ rfl _ _ _ _ rfl _ _ rfl rfl _ _ HRQ.out ?_)
          refine bodyPost_ret (v := .tuple #[.agg #[.string s.bytes, .string ⟨(l ++ t.data.toList).toArray⟩], .nilIface]) (by simp [results, Tryd.results33, go_sem, u0, u1]) rfl ⟨?_, .inr ⟨HC.out, s, HK.out, by rw [HFIN.out]; rfl⟩⟩
          repeat (refine Below.setCell ?_ (by simp) _)
          exact HGQ.out.bel
  | false =>
    go_wp2_with fail
    obtain ⟨w7, HW7⟩ : ∃ W, Hid ((w2.alloc (.cells #[.int .i64 (s.kind : Int), .string s.bytes, .bool false, .int .i64 (s.nums : Int), .int .i64 s.low, .int .i64 s.high, .bool s.pic] 92)) = W) := ⟨_, (rfl : _ = _)⟩
    have hb7 : Below (w2.heap.size + 1) (w2.alloc (.cells #[.int .i64 (s.kind : Int), .string s.bytes, .bool false, .int .i64 (s.nums : Int), .int .i64 s.low, .int .i64 s.high, .bool s.pic] 92)) w7 := by rw [← HW7.out]; exact Below.refl _ _
    have HG7 := hid_of3 (KG.out w7 hb7)
    have HO7 := hid_of3 (ownY_nil w7 (w2.heap.size + 1))
    have hB7 : w2.heap.size + 1 ≤ w7.heap.size := by have := hb7.size; simpa using this
    rw [HW7.out]
    clear HW7
    have HGD := hid_of3 (show Goc w q ap np cp w2.heap.size s false w7.drew from HG7.out.drew)
    have hnum := fun X => numbers_any q (.slice ap np cp) X
    unfold opV at hnum
    have HNUM := hid_of3 hnum
    clear hnum
    have hn4 : (0 : Int) ≤ (s.nums : Int) := by omega
    have hn5 : (s.nums : Int) ≤ 4 := by omega
    have hn6 : s.nums ≤ 4 := hs1
    go_region_held3 (fun w' => w'.cell? ⟨w.heap.size, 0, none⟩ = some (.int .i64 q.kind) ∧ w'.cell? ⟨w.heap.size, 1, none⟩ = some (.int .i64 q.id) ∧ w'.cell? ⟨w.heap.size, 2, none⟩ = some (.int .i64 q.a) ∧ w'.cell? ⟨w.heap.size, 3, none⟩ = some (.int .i64 q.b) ∧ w'.cell? ⟨w.heap.size, 4, none⟩ = some (.int .i64 q.c) ∧ w'.cell? ⟨w.heap.size, 5, none⟩ = some (.int .i64 q.d) ∧ w'.cell? ⟨w.heap.size, 6, none⟩ = some (.int .i64 q.pw) ∧ w'.cell? ⟨w.heap.size, 7, none⟩ = some (.int .i64 q.ph) ∧ w'.cell? ⟨w.heap.size, 8, none⟩ = some (.slice ap np cp) ∧ w'.cell? ⟨w2.heap.size, 3, none⟩ = some (.int .i64 (s.nums : Int)))
      (first
        | exact ⟨HG8.out.nn.c0, HG8.out.nn.c1, HG8.out.nn.c2, HG8.out.nn.c3, HG8.out.nn.c4, HG8.out.nn.c5, HG8.out.nn.c6, HG8.out.nn.c7, HG8.out.nn.c8, HG8.out.ss.c3⟩
        | exact ⟨HGD.out.nn.c0, HGD.out.nn.c1, HGD.out.nn.c2, HGD.out.nn.c3, HGD.out.nn.c4, HGD.out.nn.c5, HGD.out.nn.c6, HGD.out.nn.c7, HGD.out.nn.c8, HGD.out.ss.c3⟩
        | fail)
      (first
        | (go_at_call 55; refine (HNUM.out _).mono ?_; rintro e w8 ⟨g, rfl, hg, hcell, hb8⟩; have HG8 := hid_of3 (HGD.out.on hb8); have HC8 := hid_of3 hcell; have hb8' := hb8; clear hcell)
        | fail)
    clear HGD HNUM
    have hb8D : Below w7.heap.size w7 w8 := (show Below w7.heap.size w7 w7.drew from (Below.refl _ _).drew).trans hb8'
    have hB8 : w2.heap.size + 1 ≤ w8.heap.size := by have h := hb8D.size; have h2 := hB7; omega
    have HO8 := hid_of3 (HO7.out.on hb8D)
    have HR8 := hid_of3 (nums_own (B := w2.heap.size + 1) q HC8.out (Nat.le_trans hB7 hg) s.nums hs1)
    have hbX8 : Below (w2.heap.size + 1) (w2.alloc (.cells #[.int .i64 (s.kind : Int), .string s.bytes, .bool false, .int .i64 (s.nums : Int), .int .i64 s.low, .int .i64 s.high, .bool s.pic] 92)) w8 := hb7.trans (hb8D.mono hB7)
    obtain ⟨l0, HL0⟩ : ∃ l, Hid (idB q.id s.id = l) := ⟨_, (rfl : _ = _)⟩
    have hl0 : l0.length ≤ 1 := by rw [← HL0.out]; exact idB_len _ _
    rw [show ([] : List UInt8) = l0 by rw [← HL0.out, HFID.out]; rfl] at HO8
    obtain ⟨ns, HNS⟩ : ∃ l, Hid ((nums4 q).take s.nums = l) := ⟨_, (rfl : _ = _)⟩
    obtain ⟨nn, HNN⟩ : ∃ n, Hid (s.nums = n) := ⟨_, (rfl : _ = _)⟩
    have hnl : Hid (ns.length = nn) := by unfold Hid; rw [← HNS.out, ← HNN.out, List.length_take]; simp [nums4]; omega
    have HNB := hid_of3 HOK.out.num
    rw [HNS.out] at HR8 HNB
    have hn7 : nn ≤ 4 := by rw [← HNN.out]; exact hs1
    clear HC8 hb8 hb8' hn4 hn5 hn6 hg hb8D hb7
    rw [HNN.out] at HR8 ⊢
    go_wp2_with fail
    go_loopw [7, 9, 38] (fun d _ i wr => ∃ (k : Nat) (l : List UInt8), k ≤ nn ∧ i = .int .i64 k ∧ Hid (OwnY wr (w2.heap.size + 1) d l) ∧ Hid (l = l0 ++ nsB (ns.take k)) ∧ Hid (wr.ownsRow (w2.heap.size + 1) 3 1 (.slice (some ⟨g, 0, none⟩) nn 4) nn (intCells ns)) ∧ Below (w2.heap.size + 1) (w2.alloc (.cells #[.int .i64 (s.kind : Int), .string s.bytes, .bool false, .int .i64 (s.nums : Int), .int .i64 s.low, .int .i64 s.high, .bool s.pic] 92)) wr) (fun _ _ i _ => nn - (intOf i).toNat)
    case atStart => exact ⟨0, l0, by omega, rfl, HO8, by unfold Hid; simp [nsB], HR8, hbX8⟩
    case round =>
      obtain ⟨k, l, hk, rfl, HO, HLK, HRN, hbr⟩ := hrel
      by_cases hlt : k < nn
      · have hki : (k : Int) < (nn : Int) := by omega
        have hki0 : (0 : Int) ≤ (k : Int) := by omega
        obtain ⟨x, HX⟩ : ∃ x, Hid (ns.getD k 0 = x) := ⟨_, (rfl : _ = _)⟩
        obtain ⟨gg, po, hag, hgl, hcx⟩ := (rdI_own HRN.out hnl.out).at hlt hnl HX
        simp only [Option.some.injEq, Addr.mk.injEq, and_true] at hag
        obtain ⟨rfl, rfl⟩ := hag
        have hxm : x ∈ ns := by rw [← HX.out, List.getD_eq_getElem?_getD, List.getElem?_eq_getElem (by rw [hnl.out]; exact hlt)]; exact List.getElem_mem _
        obtain ⟨hx1, hx2⟩ := HNB.out x hxm
        rw [Nat.zero_add] at hcx
        have hln : l.length ≤ 100 := by
          rw [HLK.out, List.length_append, nsB_len, List.length_take]
          have := hnl.out
          omega
        obtain ⟨N, n0, n1, hn0, hn1, hwx, ee1, ee2, ee3, hnb⟩ := two_parts x hx1 hx2
        have HLK2 : Hid (l ++ [UInt8.ofNat n0, UInt8.ofNat n1] = l0 ++ nsB (ns.take (k + 1))) := by
          unfold Hid
          rw [take_nsB (by rw [hnl.out]; exact hlt) HX.out, hnb, HLK.out, List.append_assoc]
        obtain ⟨vx, wx, hrx, hox, hbx, hkx⟩ := by_app2 (X := wr) (B := w2.heap.size + 1) HO.out [UInt8.ofNat n0, UInt8.ofNat n1] 2 #[.int .u8 (n0 : Int), .int .u8 (n1 : Int)] wr.heap.size (by simp only [List.map_cons, List.map_nil, bv]; rw [u8_toNat n0 hn0, u8_toNat n1 hn1]) rfl rfl (by omega) (Nat.le_trans (by simp) hbr.size)
        have HRX := hid_of3 hrx
        have HOX := hid_of3 hox
        have hbrx := hbr.trans hbx
        have HRNx := hid_of3 (hkx (by decide) HRN.out)
        clear hxm hx1 hx2 hrx hox hnb hbx hln HLK hkx HRN
        go_wp2_with (at_builtin; refine Lib.wpList_append_run _ rfl _ _ _ _ rfl _ _ rfl rfl _ _ HRX.out ?_)
        clear hwx ee1 ee2 ee3 hn0 hn1
        go_roundw
        case rel => exact ⟨k + 1, _, by omega, by go_num, HOX, HLK2, HRNx, hbrx⟩
        case measure => simp [intOf]; omega
      · have hki : ¬ (k : Int) < (nn : Int) := by omega
        obtain rfl : nn = k := by omega
        have HGZ := hid_of3 (KG.out wr hbr)
        have hl1 : l = l0 ++ nsB ns := by rw [HLK.out, List.take_of_length_le (by rw [hnl.out]; exact Nat.le_refl _)]
        have hll : l.length ≤ 100 := by
          rw [hl1, List.length_append, nsB_len]
          have := hnl.out
          omega
        have HL1 := hid_of3 hl1
        clear hl1 HLK HRN
        obtain ⟨fpc, HFPC⟩ : ∃ b, Hid (s.pic = b) := ⟨_, (rfl : _ = _)⟩
        obtain ⟨⟨m0, m1, m2, m3, m4, m5, m6, m7, m8, -, -, -, -, -, -, -, -, -, -⟩, ⟨t0, t1, tf0, tf1, tl⟩, ⟨s0, s1, s2, s3, s4, s5, s6, -, -, -, -, -, -, -, -⟩, -, -⟩ := HGZ.out
        rw [HFPC.out] at s6 ⊢
        cases fpc with
        | false =>
          have HST := hid_of3 (run_str HO.out)
          have hst := HST.out
          have HFIN : Hid (opB q s.id s.nums s.pic = l) := by
            unfold Hid opB pcB
            rw [HL1.out, HFPC.out, HL0.out, HNS.out]
            simp
          unfold str at hst
          go_wp2_with fail
          refine bodyPost_ret (v := .tuple #[.agg #[.string s.bytes, .string ⟨l.toArray⟩], .nilIface]) (by simp [results, Tryd.results33, go_sem, t0, t1]) rfl ⟨?_, .inr ⟨HC.out, s, HK.out, by rw [HFIN.out]; rfl⟩⟩
          repeat (refine Below.setCell ?_ (by simp) _)
          exact HGZ.out.bel
        | true =>
          have hpok := HOK.out.pic HFPC.out
          obtain ⟨PW, PH, e1, e2, -⟩ := check_zero _ _ _ hpok
          rw [e1] at m6
          rw [e2] at m7
          rw [e1, e2] at hpok
          have HCP := hid_of3 hpok
          have HE := hid_of3 (And.intro e1 e2)
          clear hpok e1 e2
          obtain ⟨t, HT⟩ := bytes_of (picBytes PW PH q.ps)
          have hts : t.size ≤ 1000 := by
            have h := picBytes_len PW PH q.ps HCP.out
            obtain ⟨i1, i2, i3, i4, -, -⟩ := check_ok HCP.out
            have h3 : PH * (1 + 2 * PW) ≤ 8 * 17 := Nat.mul_le_mul (by omega) (by omega)
            rw [size_of HT]
            omega
          go_wp2_with fail
          refine (picBytes_at PW PH (.slice ap np cp) q.ps _ HGZ.out.rp HCP t HT).mono ?_
          rintro e wp ⟨rfl, hbp⟩
          have HGP := hid_of3 (HGZ.out.on hbp)
          have HOP := hid_of3 (HO.out.on hbp)
          clear m0 m1 m2 m3 m4 m5 m6 m7 m8 t0 t1 tf0 tf1 tl s0 s1 s2 s3 s4 s5 s6
          obtain ⟨⟨m0, m1, m2, m3, m4, m5, m6, m7, m8, -, -, -, -, -, -, -, -, -, -⟩, ⟨t0, t1, tf0, tf1, tl⟩, ⟨s0, s1, s2, s3, s4, s5, s6, -, -, -, -, -, -, -, -⟩, -, -⟩ := HGP.out
          obtain ⟨vq, wq, hrq, hoq, hbq⟩ := st_app (X := wp) (B := w2.heap.size + 1) HOP.out t (by omega) (Nat.le_trans (by simp) (hbr.trans (hbp.mono (Nat.le_trans (by simp) hbr.size))).size)
          have hbrq := (hbr.trans (hbp.mono (Nat.le_trans (by simp) hbr.size))).trans hbq
          have HGQ := hid_of3 (KG.out wq hbrq)
          have HRQ := hid_of3 hrq
          have HST := hid_of3 (run_str hoq)
          have HFIN : Hid (opB q s.id s.nums s.pic = l ++ t.data.toList) := by
            unfold Hid opB pcB
            rw [HFPC.out, HL0.out, HNS.out, if_pos rfl, HE.out.1, HE.out.2, ← HL1.out, ← HT.out]
            rfl
          clear hrq hoq hbq
          obtain ⟨-, ⟨u0, u1, uf0, uf1, ul⟩, ⟨-, z1, -, -, -, -, -, -, -, -, -, -, -, -, -⟩, -, -⟩ := HGQ.out
          have hst := HST.out
          unfold str at hst
          go_wp2_with (at_builtin; refine Lib.wpList_append_run _ rfl _ _ _ _ rfl _ _ rfl rfl _ _ HRQ.out ?_)
          refine bodyPost_ret (v := .tuple #[.agg #[.string s.bytes, .string ⟨(l ++ t.data.toList).toArray⟩], .nilIface]) (by simp [results, Tryd.results33, go_sem, u0, u1]) rfl ⟨?_, .inr ⟨HC.out, s, HK.out, by rw [HFIN.out]; rfl⟩⟩
          repeat (refine Below.setCell ?_ (by simp) _)
          exact HGQ.out.bel
end Go.Proofs.YtceabiodelfdoaaDoor
