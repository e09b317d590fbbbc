/- Walk: book.Bytes. -- s1 -/
import Derived.Test.YtceabiodelfdoaaDoorM11
import Derived.Test.YtceabiodelfdoaaDoorBuBJ
namespace Go.Proofs.YtceabiodelfdoaaDoor
open Go.RowKit

theorem bld_on {T e : TypeId} {B b : Nat} {bs : List Value} {W W' : World} (h : Lib.IsBuilder T e B b bs W) (hb : Below W.heap.size W W') : Lib.IsBuilder T e B b bs W' := by
  have k : ∀ p, Lib.BuilderAt T e B b p bs W → Lib.BuilderAt T e B b p bs W' := fun p h => by
    have hlt := h.lt
    obtain ⟨hB, v, hk, ho, hn⟩ := h
    exact ⟨hB, v, (hb.block b hlt).trans hk, own_on2 ho hb, hn⟩
  exact h.imp (k _) (k _)
theorem bookB_ne {qs : List Pq} (HBK : Book qs) : bookB qs ≠ [] := fun e => by
  unfold bookB at e
  rw [List.flatMap_eq_nil_iff] at e
  have hn0 : 0 < qs.length := by have := HBK.two; omega
  have h1 := e _ (List.getElem_mem hn0)
  have h0 := HBK.ok 0 hn0
  rw [List.getD_eq_getElem?_getD, List.getElem?_eq_getElem hn0] at h0
  simp only [Option.getD_some] at h0
  obtain ⟨s, hs⟩ := opC_some h0
  unfold cB at h1
  rw [hs] at h1
  have h2 := seal_len s.name (opB qs[0] s.id s.nums s.pic)
  simp only at h1
  rw [h1] at h2
  simp at h2
theorem alloc_new (w : World) (o : Obj) : (w.alloc o).heap[w.heap.size]? = some o := by
  show (w.heap.push o)[w.heap.size]? = some o
  exact Array.getElem?_push_size
/-- what book.Bytes answers -/
def BBP (qs : List Pq) (w : World) (e : Ending) (w' : World) : Prop :=
  Below w.heap.size w w' ∧ ((∃ c, bkC qs = c ∧ c ≠ 0 ∧ e = .returned (.tuple #[.string ⟨#[]⟩, errV c])) ∨ (bkC qs = 0 ∧ e = .returned (.tuple #[str (bookB qs), .nilIface])))
set_option maxHeartbeats 8000000 in
set_option maxRecDepth 100000 in
theorem bookBytes_any (v : Value) (qs : List Pq) (w : World) (HS : Hid (Shapes w)) (h1 : 1 < w.heap.size) (HR : Hid (RdQ w v qs)) (hps : ∀ j, j < qs.length → (qs.getD j pq0).ps.length ≤ 1000) (hn : qs.length ≤ 1000) :
    Calls Tryd.prog 7 #[v] w fun e w' => BBP qs w e w' := by
  obtain ⟨a, cap, hv, hl0, hcap⟩ := HR.out.shape
  obtain ⟨n, HN⟩ : ∃ n, Hid (qs.length = n) := ⟨_, (rfl : _ = _)⟩
  rw [HN.out] at hv hl0
  subst hv
  have HPS := hid_of3 hps
  obtain ⟨c, HC⟩ : ∃ c, Hid (bkC qs = c) := ⟨_, (rfl : _ = _)⟩
  have hbf := bookCheck_any (.slice a n cap) qs w HS h1 HR hps hn c HC
  rw [HN.out] at hn
  clear hps
  by_cases hc : c = 0
  case neg =>
    have hev : errV c = .iface 61 (.int .i64 (c : Int)) := by unfold errV; rw [if_neg hc]
    rw [hev] at hbf
    have HBF := hid_of3 hbf
    clear hbf
    go_enter Tryd.func7, Tryd.ntmps7
    go_wp2_with fail
    refine HBF.out.mono ?_
    rintro e w1 ⟨rfl, hb1⟩
    go_wp2_with fail
    refine bodyPost_ret (v := .tuple #[.string ⟨#[]⟩, .iface 61 (.int .i64 (c : Int))]) (by simp [results, Tryd.results7, go_sem]) rfl ⟨hb1, .inl ⟨c, HC.out, hc, by rw [hev]⟩⟩
  subst hc
  rw [show errV 0 = Value.nilIface from rfl] at hbf
  have HBF := hid_of3 hbf
  clear hbf
  have HBK : Hid (Book qs) := book_of HC.out
  have HCL : Hid (∀ q ∈ qs, (cB q).length ≤ 1008) := fun q hq => by
    obtain ⟨j, hj, rfl⟩ := List.mem_iff_getElem.1 hq
    have h0 := HBK.out.ok j hj
    rw [List.getD_eq_getElem?_getD, List.getElem?_eq_getElem hj] at h0
    simp only [Option.getD_some] at h0
    obtain ⟨s, hs⟩ := opC_some h0
    exact (cB_of _ s hs (opC_ok h0 hs)).2.2
  go_enter Tryd.func7, Tryd.ntmps7
  go_wp2_with fail
  refine HBF.out.mono ?_
  clear HBF
  rintro e w1 ⟨rfl, hb1⟩
  have hb1s := hb1.size
  go_wp2_with fail
  go_loopw [17] (fun i wr => ∃ (k : Nat), k ≤ n ∧ i = .int .i64 k ∧ Hid (Lib.IsBuilder 53 5 w.heap.size w1.heap.size (Lib.byteCells (bookB (qs.take k))) wr) ∧ Below w.heap.size w wr) (fun i _ => n - (intOf i).toNat)
  case atStart =>
    refine ⟨0, by omega, rfl, .inl ⟨hb1s, .slice none 0 0, alloc_new _ _, ?_, by simp [Value.ownBlock]⟩, hb1.alloc hb1s _⟩
    exact World.ownsRow_nil _ _ _ _
  case round =>
    obtain ⟨k, hk, rfl, HBL, hbr⟩ := hrel
    have hbrs := hbr.size
    have HTL : Hid ((Lib.byteCells (bookB (qs.take k))).length ≤ 1008 * 1000) := by
      unfold Hid
      rw [Lib.byteCells_length]
      have h2 := bookB_len (qs.take k) (fun q hq => HCL.out q (List.mem_of_mem_take hq))
      have h3 := List.length_take_le k qs
      have : 1008 * (qs.take k).length ≤ 1008 * 1000 := Nat.mul_le_mul (Nat.le_refl _) (by omega)
      omega
    by_cases hlt : k < n
    case neg =>
      obtain rfl : k = n := by omega
      have hki : ¬ (k : Int) < (k : Int) := by omega
      have HBL2 := HBL.out
      rw [List.take_of_length_le (by rw [HN.out]; exact Nat.le_refl _)] at HBL2
      have HST := hid_of3 (string_bld _ _ _ _ HBL2 (bookB_ne HBK.out))
      clear HBL2
      go_wp2_with fail
      refine HST.out.mono ?_
      rintro e w2 ⟨rfl, hb2⟩
      go_wp2_with fail
      refine bodyPost_ret (v := .tuple #[str (bookB qs), .nilIface]) (by simp [results, Tryd.results7, go_sem, str]) rfl ⟨hbr.trans hb2, .inr ⟨HC.out, rfl⟩⟩
    have hki : (k : Int) < (n : Int) := by omega
    have hki0 : (0 : Int) ≤ (k : Int) := by omega
    obtain ⟨q, HX⟩ : ∃ q, Hid (qs.getD k pq0 = q) := ⟨_, (rfl : _ = _)⟩
    have HRr : Hid (RdQ wr (.slice a n cap) qs) := HR.out.on hbr
    obtain ⟨g, o, ua, m, uc, rfl, hg, OC, HU, HMU⟩ := HRr.out.at hlt HX
    obtain ⟨c0, c1, c2, c3, c4, c5, c6, c7, c8⟩ := OC
    have hok : opC q = 0 := by rw [← HX.out]; exact HBK.out.ok k (by rw [HN.out]; exact hlt)
    have HST : Hid (bookB (qs.take (k + 1)) = bookB (qs.take k) ++ cB q) := bookB_take qs k (by rw [HN.out]; exact hlt) HX.out
    have hql : q.ps.length ≤ 1000000000 := by rw [← HX.out]; have := HPS.out k (by rw [HN.out]; exact hlt); omega
    obtain ⟨X0, HX0⟩ : ∃ X0, Hid (wr.alloc (.cells #[.int .i64 q.kind, .int .i64 q.id, .int .i64 q.a, .int .i64 q.b, .int .i64 q.c, .int .i64 q.d, .int .i64 q.pw, .int .i64 q.ph, .slice ua m uc] 45) = X0) := ⟨_, (rfl : _ = _)⟩
    have hbx : Below wr.heap.size wr X0 := by rw [← HX0.out]; exact (Below.refl _ _).alloc (Nat.le_refl _) _
    have hwx := hbr.trans (hbx.mono hbrs)
    have hbo := bytesOf_ok q (.slice ua m uc) X0 (HS.out.on h1 hwx) (Nat.lt_of_lt_of_le h1 hwx.size) (HU.on hbx) hql hok
    obtain ⟨u, HUU⟩ := bytes_of (cB q)
    rw [HUU.out, str_self] at hbo
    unfold opV at hbo
    have HBO := hid_of3 hbo
    clear hbo hok
    go_wp2_with fail
    rw [HX0.out]
    refine HBO.out.mono ?_
    clear HBO
    rintro e w2 ⟨rfl, hb2, hul⟩
    have hus : u.size ≤ 1008 := by rw [size_of HUU, HUU.out]; exact hul
    have hb22 : Below wr.heap.size wr w2 := hbx.trans (hb2.mono hbx.size)
    have hbw2 : Below w.heap.size w w2 := hbr.trans (hb22.mono hbrs)
    have HWS := hid_of3 (writeString_bld _ _ _ u w2 (bld_on HBL.out hb22) (by have := HTL.out; omega) hbw2.size)
    clear c0 c1 c2 c3 c4 c5 c6 c7 c8
    go_wp2_with fail
    refine HWS.out.mono ?_
    clear HWS
    rintro e w3 ⟨rfl, hat, hb3⟩
    have HAT : Hid (Lib.IsBuilder 53 5 w.heap.size w1.heap.size (Lib.byteCells (bookB (qs.take (k + 1)))) w3) := by
      unfold Hid
      rw [HST.out, HUU.out, show Lib.byteCells (bookB (qs.take k) ++ u.data.toList) = Lib.byteCells (bookB (qs.take k)) ++ Lib.strCells u by unfold Lib.byteCells Lib.strCells; rw [List.map_append]]
      exact .inr hat
    go_wp2_with fail
    go_roundw
    case rel => exact ⟨k + 1, by omega, by go_num, HAT, hbw2.trans hb3⟩
    case measure => simp [intOf]; omega
end Go.Proofs.YtceabiodelfdoaaDoor
