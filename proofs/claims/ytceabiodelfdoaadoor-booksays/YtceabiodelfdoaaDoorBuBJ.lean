/- Walk: book.bytesOf of an op that may be. -- s1 -/
import Derived.Test.YtceabiodelfdoaaDoorM11
import Derived.Test.YtceabiodelfdoaaDoorBuAJ
import Derived.Test.YtceabiodelfdoaaDoorOcAJ
namespace Go.Proofs.YtceabiodelfdoaaDoor
open Go.RowKit

set_option maxHeartbeats 4000000 in
set_option maxRecDepth 100000 in
theorem bytesOf_ok (q : Pq) (u : Value) (w : World) (HS : Hid (Shapes w)) (h1 : 1 < w.heap.size) (HU : Hid (RdP w u q.ps)) (hps : q.ps.length ≤ 1000000000) (h0 : opC q = 0) :
    Calls Tryd.prog 18 #[opV q u] w fun e w' => e = .returned (.tuple #[str (cB q), .nilIface]) ∧ Below w.heap.size w w' ∧ (cB q).length ≤ 1008 := by
  obtain ⟨s, hs⟩ := opC_some h0
  have HSS := hid_of3 hs
  have HOK := hid_of3 h0
  obtain ⟨b1, b2, b3⟩ := cB_of q s hs (opC_ok h0 hs)
  have HB1 := hid_of3 b1
  have HB2 := hid_of3 b2
  have hol := opB_len q s (opC_ok h0 hs)
  have hnl := (name_ok s (kindAt_mem _ _ _ hs).1).2
  clear b1 b2 hs h0
  obtain ⟨X0, HX0⟩ : ∃ X0, Hid (w.alloc (.cells #[.int .i64 q.kind, .int .i64 q.id, .int .i64 q.a, .int .i64 q.b, .int .i64 q.c, .int .i64 q.d, .int .i64 q.pw, .int .i64 q.ph, u] 45) = X0) := ⟨_, (rfl : _ = _)⟩
  have hbx : Below w.heap.size w X0 := by rw [← HX0.out]; exact (Below.refl _ _).alloc (Nat.le_refl _) _
  have hoc := chunkOp_any q u X0 (HS.out.on h1 hbx) (Nat.lt_of_lt_of_le h1 hbx.size) (HU.out.on hbx) hps
  unfold opV at hoc ⊢
  have HOC := hid_of3 hoc
  clear hoc
  obtain ⟨d, HD⟩ := bytes_of (opB q s.id s.nums s.pic)
  have HSTR : Hid (str (opB q s.id s.nums s.pic) = .string d) := by unfold Hid; rw [HD.out, str_self]
  have hds : d.size ≤ 1000 := by rw [size_of HD]; exact hol
  go_enter Tryd.func18, Tryd.ntmps18
  go_wp2_with fail
  rw [HX0.out]
  refine HOC.out.mono ?_
  clear HOC
  rintro e w2 ⟨hb2, he⟩
  have he2 : e = .returned (.tuple #[.agg #[.string s.bytes, .string d], .nilIface]) := by
    rcases he with ⟨c', hc', hn', _⟩ | ⟨_, s', hs', rfl⟩
    · exact absurd (hc'.symm.trans HOK.out) hn'
    · obtain rfl := Option.some.inj (HSS.out.symm.trans hs')
      rw [HSTR.out]
  subst he2
  clear he
  have hbb2 : Below w.heap.size w w2 := hbx.trans (hb2.mono hbx.size)
  have hb2s := hbb2.size
  have hnb : s.bytes.size ≤ 1000000 := by show s.name.toArray.size ≤ _; simp; omega
  have HZ : Hid (Fb.chunkBytes s.bytes.data.toList d.data.toList = (cB q, 0)) := by
    unfold Hid
    rw [← HD.out, show s.bytes.data.toList = s.name by unfold Shp.bytes; simp, ← HB2.out, HB1.out]
  have HCB := hid_of3 (fun W : World => bytes_at s.bytes d W (by omega) (by omega) (str (cB q)) .nilIface (cB q) 0 HZ rfl rfl)
  go_wp2_with fail
  refine (HCB.out _).mono ?_
  rintro e w3 ⟨rfl, hb3⟩
  go_wp2_with fail
  refine bodyPost_ret (v := .tuple #[str (cB q), .nilIface]) (by simp [results, Tryd.results18, go_sem]) rfl ⟨rfl, ?_, b3⟩
  exact (hbb2.alloc hbb2.size _).trans (hb3.mono (by simp; omega))
end Go.Proofs.YtceabiodelfdoaaDoor
