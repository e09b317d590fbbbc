/- DoObject: no row of pixels lies in one block. -/
import Derived.Test.YtjmkfcgnadpbaaaDoorM9
import Derived.Test.YtjmkfcgnadpbaaaDoorNiD2J
namespace Go.Proofs.YtjmkfcgnadpbaaaDoor.NI
open Go.RowKit
section
variable [Inhabited Blk]


set_option maxHeartbeats 8000000 in
set_option maxRecDepth 100000 in
theorem rdo_8 (v : Value) (os : List Po) (q : Pq) (uq : Value) (w : World) (hk : q.kind = 8) (hyes : ∃ j, j < os.length ∧ (os.getD j po0).id = q.id) (HFB : Hid (∀ x, Forb.s x → x < w.heap.size)) (HP : Hid (DoPre os q)) (HR : Hid (RdO w v os)) (HU : Hid (RdP w uq q.ps)) :
    Calls Tryd.prog 27 #[v, opV q uq] w fun e w' => RDoP os q w e w' := by
  obtain ⟨kd, qid, qa, qb, qc, qd, qw, qh, qp⟩ := q
  simp only at hk hyes
  subst hk
  have HYES := hid_of2 hyes
  clear hyes
  obtain ⟨a, cap, hv, hl, hcap⟩ := HR.out.shape
  obtain ⟨n, HN⟩ : ∃ n, Hid (os.length = n) := ⟨_, (rfl : _ = _)⟩
  rw [HN.out] at hv hl
  simp only [opV] at HU ⊢
  obtain ⟨ap, cp, hvp, _, _, _⟩ := HU.out
  subst hvp
  have HSO : Hid (SortO os) := HP.out.sort
  have hos : os.length ≤ 100 := HP.out.few
  have hbz : Below w.heap.size w (w.alloc (.cells #[.int .i64 8, .int .i64 qid, .int .i64 qa, .int .i64 qb, .int .i64 qc, .int .i64 qd, .int .i64 qw, .int .i64 qh, .slice ap qp.length cp] 51)) := (Below.refl _ _).alloc (Nat.le_refl _) _
  have N0 := hid_of2 (nine_start w (.int .i64 8) (.int .i64 qid) (.int .i64 qa) (.int .i64 qb) (.int .i64 qc) (.int .i64 qd) (.int .i64 qw) (.int .i64 qh) (.slice ap qp.length cp) 51 w.heap.size rfl)
  have HR0 : Hid (RdO _ v os) := HR.out.on hbz
  subst hv
  go_enter Tryd.func27, Tryd.ntmps27
  go_wp2_with fail
  refine (rget_any _ os qid _ (by omega) HR0).mono ?_
  rintro e w5 ⟨hb5, hget⟩
  have hbb5 := hbz.trans (hb5.mono hbz.size)
  have HR5 : Hid (RdO w5 (.slice a n cap) os) := HR0.out.on hb5
  obtain ⟨k0, k1, k2, k3, k4, k5, k6, k7, k8, kf0, kf1, kf2, kf3, kf4, kf5, kf6, kf7, kf8, klt⟩ := N0.out.on hb5
  rcases hget with ⟨i, u, hi, hit, rfl, hou⟩ | ⟨hno, _⟩
  case inr =>
    obtain ⟨j, hj, he⟩ := HYES.out
    exact absurd he (hno j hj)
  obtain ⟨ob, HX⟩ : ∃ o, Hid (os.getD i po0 = o) := ⟨_, (rfl : _ = _)⟩
  have HFI : Hid (os.find? (fun o => decide (o.id = qid)) = some ob) := by unfold Hid; rw [← HX.out]; exact find_at os qid HSO.out i hi hit
  have HOK : Hid (checkL ob.pw ob.ph ob.ps = 0) := by unfold Hid; rw [← HX.out]; exact HP.out.ok i hi
  obtain ⟨zc, z1, z2, z3, z4⟩ := HP.out.pic (by simp)
  simp only at zc z1 z2 z3 z4
  obtain ⟨oid, ox, oy, opw, oph, ops, ocx, ocy, ocw, och, osh⟩ := ob
  have hok := HOK.out
  simp only at hok
  obtain ⟨QW, QH, e1, e2, -⟩ := check_zero _ _ _ hok
  obtain ⟨ZW, ZH, e3, e4, -⟩ := check_zero _ _ _ zc
  subst e1 e2 e3 e4
  have HCP := hid_of2 hok
  have HCQ := hid_of2 zc
  have HD : Hid (doO os ⟨8, qid, qa, qb, qc, qd, (ZW : Int), (ZH : Int), qp⟩ = .inl (setO os ⟨oid, ox, oy, QW, QH, chL addP QW ops ZW ZH qp qa qb 0 0 QW QH, ocx, ocy, ocw, och, osh⟩)) := by
    unfold Hid doO
    rw [if_neg (by simp), HFI.out]
    simp [actO]
  rw [HX.out] at hou ⊢
  simp only at hou
  have HUO := hid_of2 hou
  obtain ⟨au, cu, hu, _⟩ := hou
  obtain ⟨mu, HMU⟩ : ∃ mu, Hid (ops.length = mu) := ⟨_, (rfl : _ = _)⟩
  rw [HMU.out] at hu
  subst hu
  have HU5 := hid_of2 ((HU.out.on hbz).on hb5)
  have hbx : Below w5.heap.size w5 (w5.alloc (.cells #[.int .i64 oid, .int .i64 ox, .int .i64 oy, .int .i64 QW, .int .i64 QH, .slice au mu cu, .int .i64 ocx, .int .i64 ocy, .int .i64 ocw, .int .i64 och, .bool osh] 80)) := (Below.refl _ _).alloc (Nat.le_refl _) _
  have E5 := hid_of2 (eleven_start w5 (.int .i64 oid) (.int .i64 ox) (.int .i64 oy) (.int .i64 QW) (.int .i64 QH) (.slice au mu cu) (.int .i64 ocx) (.int .i64 ocy) (.int .i64 ocw) (.int .i64 och) (.bool osh) 80 w5.heap.size rfl)
  obtain ⟨m0, m1, m2, m3, m4, m5, m6, m7, m8, mf0, mf1, mf2, mf3, mf4, mf5, mf6, mf7, mf8, mlt⟩ := (N0.out.on hb5).on hbx
  have HU6 := hid_of2 (HU5.out.on hbx)
  have HUO6 := hid_of2 (HUO.out.on hbx)
  have hbb6 := hbb5.trans (hbx.mono hbb5.size)
  have hw5 : w.heap.size + 1 ≤ w5.heap.size := by have := hb5.size; simpa using this
  clear hi hit HX HFI N0 HR0 hbz hb5 hbx HR5 HUO HU5 hok zc HOK
  unfold poV objV
  go_wp2_with fail
  refine (changed_own QW QH ZW ZH _ _ ops qp qa qb true addP rfl _ HCP HCQ (show Hid (Go.Proofs.YtjmkfcgnadpbaaaDoor.RdP _ _ _) from HUO6.out.rd) (show Hid (Go.Proofs.YtjmkfcgnadpbaaaDoor.RdP _ _ _) from HU6.out.rd) z1 z2 z3 z4).mono ?_
  unfold picV
  rintro e w7 ⟨u7, rfl, ho7, hb7⟩
  obtain ⟨l7, HM7⟩ : ∃ l7, Hid ((chL addP QW ops ZW ZH qp qa qb 0 0 QW QH).length = l7) := ⟨_, (rfl : _ = _)⟩
  have HO7 := hid_of2 (own_mono ho7 (show w5.heap.size + 1 ≤ _ by simp))
  obtain ⟨a7, c7, hu7⟩ := own_any ho7
  rw [HM7.out] at hu7
  subst hu7
  obtain ⟨s0, s1, s2, s3, s4, s5, s6, s7, s8, s9, s10, sf0, sf1, sf2, sf3, sf4, sf5, sf6, sf7, sf8, sf9, sf10, slt⟩ := E5.out.on hb7
  have hbb7 := hbb6.trans (hb7.mono hbb6.size)
  have hbbX : Below w.heap.size w (((w7.setCell ⟨w5.heap.size, 3, none⟩ (.int .i64 (QW : Int))).setCell ⟨w5.heap.size, 4, none⟩ (.int .i64 (QH : Int))).setCell ⟨w5.heap.size, 5, none⟩ (.slice a7 l7 c7)) := ((hbb7.setCell (show w.heap.size ≤ w5.heap.size by omega) _).setCell (show w.heap.size ≤ w5.heap.size by omega) _).setCell (show w.heap.size ≤ w5.heap.size by omega) _
  have HUX := hid_of2 (rdP_own (show ∀ x, Forb.s x → x < w5.heap.size + 1 from fun x hx => by have := HFB.out x hx; omega) (ownsRow_setCell_below (ownsRow_setCell_below (ownsRow_setCell_below HO7.out (a := ⟨w5.heap.size, 3, none⟩) (show w5.heap.size < w5.heap.size + 1 by omega) (.int .i64 (QW : Int))) (a := ⟨w5.heap.size, 4, none⟩) (show w5.heap.size < w5.heap.size + 1 by omega) (.int .i64 (QH : Int))) (a := ⟨w5.heap.size, 5, none⟩) (show w5.heap.size < w5.heap.size + 1 by omega) (.slice a7 l7 c7)))
  have HRX : Hid (RdO _ (.slice a n cap) os) := HR.out.on hbbX
  clear ho7 hb7 HO7 hbb7 HUO6 HU6 m0 m1 m2 m3 m4 m5 m6 m7 m8 mf0 mf1 mf2 mf3 mf4 mf5 mf6 mf7 mf8 mlt
  go_wp2_with fail
  have hset := rset_any (.slice a n cap) os ⟨oid, ox, oy, QW, QH, chL addP QW ops ZW ZH qp qa qb 0 0 QW QH, ocx, ocy, ocw, och, osh⟩ (.slice a7 _ c7) _ hos (fun x hx => Nat.lt_of_lt_of_le (HFB.out x hx) (hbbX).size) HSO HRX HUX
  unfold poV objV at hset
  refine hset.mono ?_
  clear hset
  rintro e w8 ⟨v8, rfl, ho8, hb8⟩
  have HO8 := hid_of2 ho8
  have hbb8 := hbbX.trans (hb8.mono hbbX.size)
  clear ho8 hb8
  go_wp2_with fail
  refine bodyPost_ret (v := .tuple #[v8, .int .i64 0]) (by simp [results, Tryd.results27, go_sem]) rfl ⟨hbb8, .inl ⟨_, _, HD.out, rfl, HO8.out⟩⟩
set_option maxHeartbeats 8000000 in
set_option maxRecDepth 100000 in
theorem rdo_9 (v : Value) (os : List Po) (q : Pq) (uq : Value) (w : World) (hk : q.kind = 9) (hyes : ∃ j, j < os.length ∧ (os.getD j po0).id = q.id) (HFB : Hid (∀ x, Forb.s x → x < w.heap.size)) (HP : Hid (DoPre os q)) (HR : Hid (RdO w v os)) (HU : Hid (RdP w uq q.ps)) :
    Calls Tryd.prog 27 #[v, opV q uq] w fun e w' => RDoP os q w e w' := by
  obtain ⟨kd, qid, qa, qb, qc, qd, qw, qh, qp⟩ := q
  simp only at hk hyes
  subst hk
  have HYES := hid_of2 hyes
  clear hyes
  obtain ⟨a, cap, hv, hl, hcap⟩ := HR.out.shape
  obtain ⟨n, HN⟩ : ∃ n, Hid (os.length = n) := ⟨_, (rfl : _ = _)⟩
  rw [HN.out] at hv hl
  simp only [opV] at HU ⊢
  obtain ⟨ap, cp, hvp, _, _, _⟩ := HU.out
  subst hvp
  have HSO : Hid (SortO os) := HP.out.sort
  have hos : os.length ≤ 100 := HP.out.few
  have hbz : Below w.heap.size w (w.alloc (.cells #[.int .i64 9, .int .i64 qid, .int .i64 qa, .int .i64 qb, .int .i64 qc, .int .i64 qd, .int .i64 qw, .int .i64 qh, .slice ap qp.length cp] 51)) := (Below.refl _ _).alloc (Nat.le_refl _) _
  have N0 := hid_of2 (nine_start w (.int .i64 9) (.int .i64 qid) (.int .i64 qa) (.int .i64 qb) (.int .i64 qc) (.int .i64 qd) (.int .i64 qw) (.int .i64 qh) (.slice ap qp.length cp) 51 w.heap.size rfl)
  have HR0 : Hid (RdO _ v os) := HR.out.on hbz
  subst hv
  go_enter Tryd.func27, Tryd.ntmps27
  go_wp2_with fail
  refine (rget_any _ os qid _ (by omega) HR0).mono ?_
  rintro e w5 ⟨hb5, hget⟩
  have hbb5 := hbz.trans (hb5.mono hbz.size)
  have HR5 : Hid (RdO w5 (.slice a n cap) os) := HR0.out.on hb5
  obtain ⟨k0, k1, k2, k3, k4, k5, k6, k7, k8, kf0, kf1, kf2, kf3, kf4, kf5, kf6, kf7, kf8, klt⟩ := N0.out.on hb5
  rcases hget with ⟨i, u, hi, hit, rfl, hou⟩ | ⟨hno, _⟩
  case inr =>
    obtain ⟨j, hj, he⟩ := HYES.out
    exact absurd he (hno j hj)
  obtain ⟨ob, HX⟩ : ∃ o, Hid (os.getD i po0 = o) := ⟨_, (rfl : _ = _)⟩
  have HFI : Hid (os.find? (fun o => decide (o.id = qid)) = some ob) := by unfold Hid; rw [← HX.out]; exact find_at os qid HSO.out i hi hit
  have HOK : Hid (checkL ob.pw ob.ph ob.ps = 0) := by unfold Hid; rw [← HX.out]; exact HP.out.ok i hi
  obtain ⟨zc, z1, z2, z3, z4⟩ := HP.out.pic (by simp)
  simp only at zc z1 z2 z3 z4
  obtain ⟨oid, ox, oy, opw, oph, ops, ocx, ocy, ocw, och, osh⟩ := ob
  have hok := HOK.out
  simp only at hok
  obtain ⟨QW, QH, e1, e2, -⟩ := check_zero _ _ _ hok
  obtain ⟨ZW, ZH, e3, e4, -⟩ := check_zero _ _ _ zc
  subst e1 e2 e3 e4
  have HCP := hid_of2 hok
  have HCQ := hid_of2 zc
  have HD : Hid (doO os ⟨9, qid, qa, qb, qc, qd, (ZW : Int), (ZH : Int), qp⟩ = .inl (setO os ⟨oid, ox, oy, QW, QH, chL (fun _ z => z) QW ops ZW ZH qp qa qb 0 0 QW QH, ocx, ocy, ocw, och, osh⟩)) := by
    unfold Hid doO
    rw [if_neg (by simp), HFI.out]
    simp [actO]
  rw [HX.out] at hou ⊢
  simp only at hou
  have HUO := hid_of2 hou
  obtain ⟨au, cu, hu, _⟩ := hou
  obtain ⟨mu, HMU⟩ : ∃ mu, Hid (ops.length = mu) := ⟨_, (rfl : _ = _)⟩
  rw [HMU.out] at hu
  subst hu
  have HU5 := hid_of2 ((HU.out.on hbz).on hb5)
  have hbx : Below w5.heap.size w5 (w5.alloc (.cells #[.int .i64 oid, .int .i64 ox, .int .i64 oy, .int .i64 QW, .int .i64 QH, .slice au mu cu, .int .i64 ocx, .int .i64 ocy, .int .i64 ocw, .int .i64 och, .bool osh] 80)) := (Below.refl _ _).alloc (Nat.le_refl _) _
  have E5 := hid_of2 (eleven_start w5 (.int .i64 oid) (.int .i64 ox) (.int .i64 oy) (.int .i64 QW) (.int .i64 QH) (.slice au mu cu) (.int .i64 ocx) (.int .i64 ocy) (.int .i64 ocw) (.int .i64 och) (.bool osh) 80 w5.heap.size rfl)
  obtain ⟨m0, m1, m2, m3, m4, m5, m6, m7, m8, mf0, mf1, mf2, mf3, mf4, mf5, mf6, mf7, mf8, mlt⟩ := (N0.out.on hb5).on hbx
  have HU6 := hid_of2 (HU5.out.on hbx)
  have HUO6 := hid_of2 (HUO.out.on hbx)
  have hbb6 := hbb5.trans (hbx.mono hbb5.size)
  have hw5 : w.heap.size + 1 ≤ w5.heap.size := by have := hb5.size; simpa using this
  clear hi hit HX HFI N0 HR0 hbz hb5 hbx HR5 HUO HU5 hok zc HOK
  unfold poV objV
  go_wp2_with fail
  refine (changed_own QW QH ZW ZH _ _ ops qp qa qb false (fun _ z => z) rfl _ HCP HCQ (show Hid (Go.Proofs.YtjmkfcgnadpbaaaDoor.RdP _ _ _) from HUO6.out.rd) (show Hid (Go.Proofs.YtjmkfcgnadpbaaaDoor.RdP _ _ _) from HU6.out.rd) z1 z2 z3 z4).mono ?_
  unfold picV
  rintro e w7 ⟨u7, rfl, ho7, hb7⟩
  obtain ⟨l7, HM7⟩ : ∃ l7, Hid ((chL (fun _ z => z) QW ops ZW ZH qp qa qb 0 0 QW QH).length = l7) := ⟨_, (rfl : _ = _)⟩
  have HO7 := hid_of2 (own_mono ho7 (show w5.heap.size + 1 ≤ _ by simp))
  obtain ⟨a7, c7, hu7⟩ := own_any ho7
  rw [HM7.out] at hu7
  subst hu7
  obtain ⟨s0, s1, s2, s3, s4, s5, s6, s7, s8, s9, s10, sf0, sf1, sf2, sf3, sf4, sf5, sf6, sf7, sf8, sf9, sf10, slt⟩ := E5.out.on hb7
  have hbb7 := hbb6.trans (hb7.mono hbb6.size)
  have hbbX : Below w.heap.size w (((w7.setCell ⟨w5.heap.size, 3, none⟩ (.int .i64 (QW : Int))).setCell ⟨w5.heap.size, 4, none⟩ (.int .i64 (QH : Int))).setCell ⟨w5.heap.size, 5, none⟩ (.slice a7 l7 c7)) := ((hbb7.setCell (show w.heap.size ≤ w5.heap.size by omega) _).setCell (show w.heap.size ≤ w5.heap.size by omega) _).setCell (show w.heap.size ≤ w5.heap.size by omega) _
  have HUX := hid_of2 (rdP_own (show ∀ x, Forb.s x → x < w5.heap.size + 1 from fun x hx => by have := HFB.out x hx; omega) (ownsRow_setCell_below (ownsRow_setCell_below (ownsRow_setCell_below HO7.out (a := ⟨w5.heap.size, 3, none⟩) (show w5.heap.size < w5.heap.size + 1 by omega) (.int .i64 (QW : Int))) (a := ⟨w5.heap.size, 4, none⟩) (show w5.heap.size < w5.heap.size + 1 by omega) (.int .i64 (QH : Int))) (a := ⟨w5.heap.size, 5, none⟩) (show w5.heap.size < w5.heap.size + 1 by omega) (.slice a7 l7 c7)))
  have HRX : Hid (RdO _ (.slice a n cap) os) := HR.out.on hbbX
  clear ho7 hb7 HO7 hbb7 HUO6 HU6 m0 m1 m2 m3 m4 m5 m6 m7 m8 mf0 mf1 mf2 mf3 mf4 mf5 mf6 mf7 mf8 mlt
  go_wp2_with fail
  have hset := rset_any (.slice a n cap) os ⟨oid, ox, oy, QW, QH, chL (fun _ z => z) QW ops ZW ZH qp qa qb 0 0 QW QH, ocx, ocy, ocw, och, osh⟩ (.slice a7 _ c7) _ hos (fun x hx => Nat.lt_of_lt_of_le (HFB.out x hx) (hbbX).size) HSO HRX HUX
  unfold poV objV at hset
  refine hset.mono ?_
  clear hset
  rintro e w8 ⟨v8, rfl, ho8, hb8⟩
  have HO8 := hid_of2 ho8
  have hbb8 := hbbX.trans (hb8.mono hbbX.size)
  clear ho8 hb8
  go_wp2_with fail
  refine bodyPost_ret (v := .tuple #[v8, .int .i64 0]) (by simp [results, Tryd.results27, go_sem]) rfl ⟨hbb8, .inl ⟨_, _, HD.out, rfl, HO8.out⟩⟩
end
end Go.Proofs.YtjmkfcgnadpbaaaDoor.NI
