/- DoObject, a new one: no row of pixels lies in one block. -/
import Derived.Test.YtjmkfcgnadpbaaaDoorNiSJ
namespace Go.Proofs.YtjmkfcgnadpbaaaDoor.NI
open Go.RowKit
section
variable [Inhabited Blk]


/-- what the reference's DoObject answers -/
def RDoP (os : List Po) (q : Pq) (w : World) (e : Ending) (w' : World) : Prop :=
  Below w.heap.size w w' ∧ ((∃ v' os', doO os q = .inl os' ∧ e = .returned (.tuple #[v', .int .i64 0]) ∧ RdO w' v' os') ∨ (∃ c : Nat, doO os q = .inr c ∧ c ≠ 0 ∧ e = .returned (.tuple #[.slice none 0 0, .int .i64 (c : Int)])))
set_option maxHeartbeats 8000000 in
set_option maxRecDepth 100000 in
/-- a new object, or another picture of it -/
theorem rdo_new (v : Value) (os : List Po) (q : Pq) (uq : Value) (w : World) (hk : q.kind = 2) (HFB : Hid (∀ x, Forb.s x → x < w.heap.size)) (HP : Hid (DoPre os q)) (HR : Hid (RdO w v os)) (HU : Hid (RdP w uq q.ps)) :
    Calls Tryd.prog 27 #[v, opV q uq] w fun e w' => RDoP os q w e w' := by
  obtain ⟨kd, qid, qa, qb, qc, qd, qw, qh, qp⟩ := q
  simp only at hk
  subst hk
  obtain ⟨a, cap, hv, hl, hcap⟩ := HR.out.shape
  obtain ⟨n, HN⟩ : ∃ n, Hid (os.length = n) := ⟨_, (rfl : _ = _)⟩
  rw [HN.out] at hv hl
  simp only [opV] at HU ⊢
  obtain ⟨ap, cp, hvp, _, _, _⟩ := HU.out
  obtain ⟨np, HNP⟩ : ∃ n, Hid (qp.length = n) := ⟨_, (rfl : _ = _)⟩
  rw [HNP.out] at hvp
  subst hvp
  have HSO : Hid (SortO os) := HP.out.sort
  have hos : os.length ≤ 100 := HP.out.few
  have hbz : Below w.heap.size w (w.alloc (.cells #[.int .i64 2, .int .i64 qid, .int .i64 qa, .int .i64 qb, .int .i64 qc, .int .i64 qd, .int .i64 qw, .int .i64 qh, .slice ap np cp] 51)) := (Below.refl _ _).alloc (Nat.le_refl _) _
  have HR0 : Hid (RdO _ v os) := HR.out.on hbz
  have HU0 : Hid (RdP _ _ _) := HU.out.on hbz
  subst hv
  have HD : Hid (doO os ⟨2, qid, qa, qb, qc, qd, qw, qh, qp⟩ = .inl (setO os (freshO ⟨2, qid, qa, qb, qc, qd, qw, qh, qp⟩))) := by unfold Hid doO; rw [if_pos rfl]
  go_enter Tryd.func27, Tryd.ntmps27
  go_wp2_with fail
  have hset := rset_any (.slice a n cap) os (freshO ⟨2, qid, qa, qb, qc, qd, qw, qh, qp⟩) (.slice ap np cp) _ hos (fun x hx => Nat.lt_of_lt_of_le (HFB.out x hx) (hbz).size) HSO HR0 HU0
  unfold poV objV freshO at hset
  refine hset.mono ?_
  clear hset
  rintro e w2 ⟨v2, rfl, ho2, hb2⟩
  have HO2 := hid_of2 ho2
  have hbb2 := hbz.trans (hb2.mono hbz.size)
  clear ho2 hb2
  go_wp2_with fail
  refine bodyPost_ret (v := .tuple #[v2, .int .i64 0]) (by simp [results, Tryd.results27, go_sem]) rfl ⟨hbb2, .inl ⟨_, _, HD.out, rfl, HO2.out⟩⟩
set_option maxHeartbeats 8000000 in
set_option maxRecDepth 100000 in
/-- no such object -/
theorem rdo_none (v : Value) (os : List Po) (q : Pq) (uq : Value) (w : World) (hk : ¬ q.kind = 2) (hno : ∀ j, j < os.length → (os.getD j po0).id ≠ q.id) (HP : Hid (DoPre os q)) (HR : Hid (RdO w v os)) (HU : Hid (RdP w uq q.ps)) :
    Calls Tryd.prog 27 #[v, opV q uq] w fun e w' => RDoP os q w e w' := by
  obtain ⟨kd, qid, qa, qb, qc, qd, qw, qh, qp⟩ := q
  simp only at hk hno
  have HNO := hid_of2 hno
  have HD : Hid (doO os ⟨kd, qid, qa, qb, qc, qd, qw, qh, qp⟩ = .inr 5) := by unfold Hid doO; rw [if_neg hk, find_no os qid hno]
  obtain ⟨a, cap, hv, hl, hcap⟩ := HR.out.shape
  obtain ⟨n, HN⟩ : ∃ n, Hid (os.length = n) := ⟨_, (rfl : _ = _)⟩
  rw [HN.out] at hv hl
  simp only [opV] at HU ⊢
  obtain ⟨ap, cp, hvp, _, _, _⟩ := HU.out
  subst hvp
  have hos : os.length ≤ 100 := HP.out.few
  have hbz : Below w.heap.size w (w.alloc (.cells #[.int .i64 kd, .int .i64 qid, .int .i64 qa, .int .i64 qb, .int .i64 qc, .int .i64 qd, .int .i64 qw, .int .i64 qh, .slice ap qp.length cp] 51)) := (Below.refl _ _).alloc (Nat.le_refl _) _
  have HR0 : Hid (RdO _ v os) := HR.out.on hbz
  subst hv
  have hk2 : (kd == 2) = false := by simpa using hk
  clear hno hk
  go_enter Tryd.func27, Tryd.ntmps27
  go_wp2_with fail
  refine (rget_any _ os qid _ (by omega) HR0).mono ?_
  rintro e w5 ⟨hb5, hget⟩
  have hbb5 := hbz.trans (hb5.mono hbz.size)
  rcases hget with ⟨i, u, hi, hit, _, _⟩ | ⟨_, rfl⟩
  · exact absurd hit (HNO.out i hi)
  clear hb5
  unfold poV objV
  go_wp2_with fail
  refine bodyPost_ret (v := .tuple #[.slice none 0 0, .int .i64 5]) (by simp [results, Tryd.results27, go_sem]) rfl ⟨?_, .inr ⟨5, HD.out, by omega, rfl⟩⟩
  exact hbb5.alloc hbb5.size _
end
end Go.Proofs.YtjmkfcgnadpbaaaDoor.NI
