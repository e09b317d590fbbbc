/- DoObject: no row of pixels lies in one block. -/
import Derived.Test.YtjmkfcgnadpbaaaDoorNiD2J
namespace Go.Proofs.YtjmkfcgnadpbaaaDoor.NI
open Go.RowKit
section
variable [Inhabited Blk]


set_option maxHeartbeats 8000000 in
set_option maxRecDepth 100000 in
theorem rdo_3 (v : Value) (os : List Po) (q : Pq) (uq : Value) (w : World) (hk : q.kind = 3) (hyes : ∃ j, j < os.length ∧ (os.getD j po0).id = q.id) (HFB : Hid (∀ x, Forb.s x → x < w.heap.size)) (HP : Hid (DoPre os q)) (HR : Hid (RdO w v os)) (HU : Hid (RdP w uq q.ps)) :
    Calls Tryd.prog 27 #[v, opV q uq] w fun e w' => RDoP os q w e w' := by
  obtain ⟨kd, qid, qa, qb, qc, qd, qw, qh, qp⟩ := q
  simp only at hk hyes
  subst hk
  have HYES := hid_of2 hyes
  clear hyes
  obtain ⟨a, cap, hv, hl, hcap⟩ := HR.out.shape
  obtain ⟨n, HN⟩ : ∃ n, Hid (os.length = n) := ⟨_, (rfl : _ = _)⟩
  rw [HN.out] at hv hl
  simp only [opV] at HU ⊢
  obtain ⟨ap, cp, hvp, _, _, _⟩ := HU.out
  subst hvp
  have HSO : Hid (SortO os) := HP.out.sort
  have hos : os.length ≤ 100 := HP.out.few
  have hbz : Below w.heap.size w (w.alloc (.cells #[.int .i64 3, .int .i64 qid, .int .i64 qa, .int .i64 qb, .int .i64 qc, .int .i64 qd, .int .i64 qw, .int .i64 qh, .slice ap qp.length cp] 51)) := (Below.refl _ _).alloc (Nat.le_refl _) _
  have N0 := hid_of2 (nine_start w (.int .i64 3) (.int .i64 qid) (.int .i64 qa) (.int .i64 qb) (.int .i64 qc) (.int .i64 qd) (.int .i64 qw) (.int .i64 qh) (.slice ap qp.length cp) 51 w.heap.size rfl)
  have HR0 : Hid (RdO _ v os) := HR.out.on hbz
  subst hv
  go_enter Tryd.func27, Tryd.ntmps27
  go_wp2_with fail
  refine (rget_any _ os qid _ (by omega) HR0).mono ?_
  rintro e w5 ⟨hb5, hget⟩
  have hbb5 := hbz.trans (hb5.mono hbz.size)
  have HR5 : Hid (RdO w5 (.slice a n cap) os) := HR0.out.on hb5
  obtain ⟨k0, k1, k2, k3, k4, k5, k6, k7, k8, kf0, kf1, kf2, kf3, kf4, kf5, kf6, kf7, kf8, klt⟩ := N0.out.on hb5
  rcases hget with ⟨i, u, hi, hit, rfl, hou⟩ | ⟨hno, _⟩
  case inr =>
    obtain ⟨j, hj, he⟩ := HYES.out
    exact absurd he (hno j hj)
  obtain ⟨ob, HX⟩ : ∃ o, Hid (os.getD i po0 = o) := ⟨_, (rfl : _ = _)⟩
  have HFI : Hid (os.find? (fun o => decide (o.id = qid)) = some ob) := by unfold Hid; rw [← HX.out]; exact find_at os qid HSO.out i hi hit
  rw [HX.out] at hou ⊢
  have HD : Hid (doO os ⟨3, qid, qa, qb, qc, qd, qw, qh, qp⟩ = .inl (setO os { ob with x := qa, y := qb })) := by
    unfold Hid doO
    rw [if_neg (by simp), HFI.out]
    rfl
  obtain ⟨au, cu, hu, _⟩ := hou
  obtain ⟨mu, HMU⟩ : ∃ mu, Hid (ob.ps.length = mu) := ⟨_, (rfl : _ = _)⟩
  have HUO := hid_of2 (show RdP w5 u ob.ps from ⟨au, cu, hu, ‹_›⟩)
  rw [HMU.out] at hu
  subst hu
  have hbx : Below w5.heap.size w5 (w5.alloc (.cells #[.int .i64 ob.id, .int .i64 qa, .int .i64 qb, .int .i64 ob.pw, .int .i64 ob.ph, .slice au mu cu, .int .i64 ob.cx, .int .i64 ob.cy, .int .i64 ob.cw, .int .i64 ob.ch, .bool ob.sh] 80)) := (Below.refl _ _).alloc (Nat.le_refl _) _
  have HRX : Hid (RdO _ (.slice a n cap) os) := HR5.out.on hbx
  have HUX := hid_of2 (HUO.out.on hbx)
  have hbbX := hbb5.trans (hbx.mono hbb5.size)
  clear hi hit HX HFI N0 HR0 hbz hb5 hbx HR5 HUO
  unfold poV objV
  go_wp2_with fail
  have hset := rset_any (.slice a n cap) os { ob with x := qa, y := qb } (.slice au mu cu) _ hos (fun x hx => Nat.lt_of_lt_of_le (HFB.out x hx) (hbbX).size) HSO HRX HUX
  unfold poV objV at hset
  refine hset.mono ?_
  clear hset
  rintro e w8 ⟨v8, rfl, ho8, hb8⟩
  have HO8 := hid_of2 ho8
  have hbb8 := hbbX.trans (hb8.mono hbbX.size)
  clear ho8 hb8
  go_wp2_with fail
  refine bodyPost_ret (v := .tuple #[v8, .int .i64 0]) (by simp [results, Tryd.results27, go_sem]) rfl ⟨hbb8, .inl ⟨_, _, HD.out, rfl, HO8.out⟩⟩
set_option maxHeartbeats 8000000 in
set_option maxRecDepth 100000 in
theorem rdo_4 (v : Value) (os : List Po) (q : Pq) (uq : Value) (w : World) (hk : q.kind = 4) (hyes : ∃ j, j < os.length ∧ (os.getD j po0).id = q.id) (HFB : Hid (∀ x, Forb.s x → x < w.heap.size)) (HP : Hid (DoPre os q)) (HR : Hid (RdO w v os)) (HU : Hid (RdP w uq q.ps)) :
    Calls Tryd.prog 27 #[v, opV q uq] w fun e w' => RDoP os q w e w' := by
  obtain ⟨kd, qid, qa, qb, qc, qd, qw, qh, qp⟩ := q
  simp only at hk hyes
  subst hk
  have HYES := hid_of2 hyes
  clear hyes
  obtain ⟨a, cap, hv, hl, hcap⟩ := HR.out.shape
  obtain ⟨n, HN⟩ : ∃ n, Hid (os.length = n) := ⟨_, (rfl : _ = _)⟩
  rw [HN.out] at hv hl
  simp only [opV] at HU ⊢
  obtain ⟨ap, cp, hvp, _, _, _⟩ := HU.out
  subst hvp
  have HSO : Hid (SortO os) := HP.out.sort
  have hos : os.length ≤ 100 := HP.out.few
  have hbz : Below w.heap.size w (w.alloc (.cells #[.int .i64 4, .int .i64 qid, .int .i64 qa, .int .i64 qb, .int .i64 qc, .int .i64 qd, .int .i64 qw, .int .i64 qh, .slice ap qp.length cp] 51)) := (Below.refl _ _).alloc (Nat.le_refl _) _
  have N0 := hid_of2 (nine_start w (.int .i64 4) (.int .i64 qid) (.int .i64 qa) (.int .i64 qb) (.int .i64 qc) (.int .i64 qd) (.int .i64 qw) (.int .i64 qh) (.slice ap qp.length cp) 51 w.heap.size rfl)
  have HR0 : Hid (RdO _ v os) := HR.out.on hbz
  subst hv
  go_enter Tryd.func27, Tryd.ntmps27
  go_wp2_with fail
  refine (rget_any _ os qid _ (by omega) HR0).mono ?_
  rintro e w5 ⟨hb5, hget⟩
  have hbb5 := hbz.trans (hb5.mono hbz.size)
  have HR5 : Hid (RdO w5 (.slice a n cap) os) := HR0.out.on hb5
  obtain ⟨k0, k1, k2, k3, k4, k5, k6, k7, k8, kf0, kf1, kf2, kf3, kf4, kf5, kf6, kf7, kf8, klt⟩ := N0.out.on hb5
  rcases hget with ⟨i, u, hi, hit, rfl, hou⟩ | ⟨hno, _⟩
  case inr =>
    obtain ⟨j, hj, he⟩ := HYES.out
    exact absurd he (hno j hj)
  obtain ⟨ob, HX⟩ : ∃ o, Hid (os.getD i po0 = o) := ⟨_, (rfl : _ = _)⟩
  have HFI : Hid (os.find? (fun o => decide (o.id = qid)) = some ob) := by unfold Hid; rw [← HX.out]; exact find_at os qid HSO.out i hi hit
  rw [HX.out] at hou ⊢
  have HD : Hid (doO os ⟨4, qid, qa, qb, qc, qd, qw, qh, qp⟩ = .inl (setO os { ob with cx := qa, cy := qb, cw := qc, ch := qd })) := by
    unfold Hid doO
    rw [if_neg (by simp), HFI.out]
    rfl
  obtain ⟨au, cu, hu, _⟩ := hou
  obtain ⟨mu, HMU⟩ : ∃ mu, Hid (ob.ps.length = mu) := ⟨_, (rfl : _ = _)⟩
  have HUO := hid_of2 (show RdP w5 u ob.ps from ⟨au, cu, hu, ‹_›⟩)
  rw [HMU.out] at hu
  subst hu
  have hbx : Below w5.heap.size w5 (w5.alloc (.cells #[.int .i64 ob.id, .int .i64 ob.x, .int .i64 ob.y, .int .i64 ob.pw, .int .i64 ob.ph, .slice au mu cu, .int .i64 qa, .int .i64 qb, .int .i64 qc, .int .i64 qd, .bool ob.sh] 80)) := (Below.refl _ _).alloc (Nat.le_refl _) _
  have HRX : Hid (RdO _ (.slice a n cap) os) := HR5.out.on hbx
  have HUX := hid_of2 (HUO.out.on hbx)
  have hbbX := hbb5.trans (hbx.mono hbb5.size)
  clear hi hit HX HFI N0 HR0 hbz hb5 hbx HR5 HUO
  unfold poV objV
  go_wp2_with fail
  have hset := rset_any (.slice a n cap) os { ob with cx := qa, cy := qb, cw := qc, ch := qd } (.slice au mu cu) _ hos (fun x hx => Nat.lt_of_lt_of_le (HFB.out x hx) (hbbX).size) HSO HRX HUX
  unfold poV objV at hset
  refine hset.mono ?_
  clear hset
  rintro e w8 ⟨v8, rfl, ho8, hb8⟩
  have HO8 := hid_of2 ho8
  have hbb8 := hbbX.trans (hb8.mono hbbX.size)
  clear ho8 hb8
  go_wp2_with fail
  refine bodyPost_ret (v := .tuple #[v8, .int .i64 0]) (by simp [results, Tryd.results27, go_sem]) rfl ⟨hbb8, .inl ⟨_, _, HD.out, rfl, HO8.out⟩⟩
set_option maxHeartbeats 8000000 in
set_option maxRecDepth 100000 in
theorem rdo_5 (v : Value) (os : List Po) (q : Pq) (uq : Value) (w : World) (hk : q.kind = 5) (hyes : ∃ j, j < os.length ∧ (os.getD j po0).id = q.id) (HFB : Hid (∀ x, Forb.s x → x < w.heap.size)) (HP : Hid (DoPre os q)) (HR : Hid (RdO w v os)) (HU : Hid (RdP w uq q.ps)) :
    Calls Tryd.prog 27 #[v, opV q uq] w fun e w' => RDoP os q w e w' := by
  obtain ⟨kd, qid, qa, qb, qc, qd, qw, qh, qp⟩ := q
  simp only at hk hyes
  subst hk
  have HYES := hid_of2 hyes
  clear hyes
  obtain ⟨a, cap, hv, hl, hcap⟩ := HR.out.shape
  obtain ⟨n, HN⟩ : ∃ n, Hid (os.length = n) := ⟨_, (rfl : _ = _)⟩
  rw [HN.out] at hv hl
  simp only [opV] at HU ⊢
  obtain ⟨ap, cp, hvp, _, _, _⟩ := HU.out
  subst hvp
  have HSO : Hid (SortO os) := HP.out.sort
  have hos : os.length ≤ 100 := HP.out.few
  have hbz : Below w.heap.size w (w.alloc (.cells #[.int .i64 5, .int .i64 qid, .int .i64 qa, .int .i64 qb, .int .i64 qc, .int .i64 qd, .int .i64 qw, .int .i64 qh, .slice ap qp.length cp] 51)) := (Below.refl _ _).alloc (Nat.le_refl _) _
  have N0 := hid_of2 (nine_start w (.int .i64 5) (.int .i64 qid) (.int .i64 qa) (.int .i64 qb) (.int .i64 qc) (.int .i64 qd) (.int .i64 qw) (.int .i64 qh) (.slice ap qp.length cp) 51 w.heap.size rfl)
  have HR0 : Hid (RdO _ v os) := HR.out.on hbz
  subst hv
  go_enter Tryd.func27, Tryd.ntmps27
  go_wp2_with fail
  refine (rget_any _ os qid _ (by omega) HR0).mono ?_
  rintro e w5 ⟨hb5, hget⟩
  have hbb5 := hbz.trans (hb5.mono hbz.size)
  have HR5 : Hid (RdO w5 (.slice a n cap) os) := HR0.out.on hb5
  obtain ⟨k0, k1, k2, k3, k4, k5, k6, k7, k8, kf0, kf1, kf2, kf3, kf4, kf5, kf6, kf7, kf8, klt⟩ := N0.out.on hb5
  rcases hget with ⟨i, u, hi, hit, rfl, hou⟩ | ⟨hno, _⟩
  case inr =>
    obtain ⟨j, hj, he⟩ := HYES.out
    exact absurd he (hno j hj)
  obtain ⟨ob, HX⟩ : ∃ o, Hid (os.getD i po0 = o) := ⟨_, (rfl : _ = _)⟩
  have HFI : Hid (os.find? (fun o => decide (o.id = qid)) = some ob) := by unfold Hid; rw [← HX.out]; exact find_at os qid HSO.out i hi hit
  rw [HX.out] at hou ⊢
  have HD : Hid (doO os ⟨5, qid, qa, qb, qc, qd, qw, qh, qp⟩ = .inl (setO os { ob with sh := decide (qa = 1) })) := by
    unfold Hid doO
    rw [if_neg (by simp), HFI.out]
    rfl
  obtain ⟨au, cu, hu, _⟩ := hou
  obtain ⟨mu, HMU⟩ : ∃ mu, Hid (ob.ps.length = mu) := ⟨_, (rfl : _ = _)⟩
  have HUO := hid_of2 (show RdP w5 u ob.ps from ⟨au, cu, hu, ‹_›⟩)
  rw [HMU.out] at hu
  subst hu
  have hbx : Below w5.heap.size w5 (w5.alloc (.cells #[.int .i64 ob.id, .int .i64 ob.x, .int .i64 ob.y, .int .i64 ob.pw, .int .i64 ob.ph, .slice au mu cu, .int .i64 ob.cx, .int .i64 ob.cy, .int .i64 ob.cw, .int .i64 ob.ch, .bool (qa == 1)] 80)) := (Below.refl _ _).alloc (Nat.le_refl _) _
  have HRX : Hid (RdO _ (.slice a n cap) os) := HR5.out.on hbx
  have HUX := hid_of2 (HUO.out.on hbx)
  have hbbX := hbb5.trans (hbx.mono hbb5.size)
  clear hi hit HX HFI N0 HR0 hbz hb5 hbx HR5 HUO
  unfold poV objV
  go_wp2_with fail
  have hset := rset_any (.slice a n cap) os { ob with sh := decide (qa = 1) } (.slice au mu cu) _ hos (fun x hx => Nat.lt_of_lt_of_le (HFB.out x hx) (hbbX).size) HSO HRX HUX
  unfold poV objV at hset
  refine hset.mono ?_
  clear hset
  rintro e w8 ⟨v8, rfl, ho8, hb8⟩
  have HO8 := hid_of2 ho8
  have hbb8 := hbbX.trans (hb8.mono hbbX.size)
  clear ho8 hb8
  go_wp2_with fail
  refine bodyPost_ret (v := .tuple #[v8, .int .i64 0]) (by simp [results, Tryd.results27, go_sem]) rfl ⟨hbb8, .inl ⟨_, _, HD.out, rfl, HO8.out⟩⟩
set_option maxHeartbeats 8000000 in
set_option maxRecDepth 100000 in
theorem rdo_6 (v : Value) (os : List Po) (q : Pq) (uq : Value) (w : World) (hk : q.kind = 6) (hyes : ∃ j, j < os.length ∧ (os.getD j po0).id = q.id) (HFB : Hid (∀ x, Forb.s x → x < w.heap.size)) (HP : Hid (DoPre os q)) (HR : Hid (RdO w v os)) (HU : Hid (RdP w uq q.ps)) :
    Calls Tryd.prog 27 #[v, opV q uq] w fun e w' => RDoP os q w e w' := by
  obtain ⟨kd, qid, qa, qb, qc, qd, qw, qh, qp⟩ := q
  simp only at hk hyes
  subst hk
  have HYES := hid_of2 hyes
  clear hyes
  obtain ⟨a, cap, hv, hl, hcap⟩ := HR.out.shape
  obtain ⟨n, HN⟩ : ∃ n, Hid (os.length = n) := ⟨_, (rfl : _ = _)⟩
  rw [HN.out] at hv hl
  simp only [opV] at HU ⊢
  obtain ⟨ap, cp, hvp, _, _, _⟩ := HU.out
  subst hvp
  have HSO : Hid (SortO os) := HP.out.sort
  have hos : os.length ≤ 100 := HP.out.few
  have hbz : Below w.heap.size w (w.alloc (.cells #[.int .i64 6, .int .i64 qid, .int .i64 qa, .int .i64 qb, .int .i64 qc, .int .i64 qd, .int .i64 qw, .int .i64 qh, .slice ap qp.length cp] 51)) := (Below.refl _ _).alloc (Nat.le_refl _) _
  have N0 := hid_of2 (nine_start w (.int .i64 6) (.int .i64 qid) (.int .i64 qa) (.int .i64 qb) (.int .i64 qc) (.int .i64 qd) (.int .i64 qw) (.int .i64 qh) (.slice ap qp.length cp) 51 w.heap.size rfl)
  have HR0 : Hid (RdO _ v os) := HR.out.on hbz
  subst hv
  go_enter Tryd.func27, Tryd.ntmps27
  go_wp2_with fail
  refine (rget_any _ os qid _ (by omega) HR0).mono ?_
  rintro e w5 ⟨hb5, hget⟩
  have hbb5 := hbz.trans (hb5.mono hbz.size)
  have HR5 : Hid (RdO w5 (.slice a n cap) os) := HR0.out.on hb5
  obtain ⟨k0, k1, k2, k3, k4, k5, k6, k7, k8, kf0, kf1, kf2, kf3, kf4, kf5, kf6, kf7, kf8, klt⟩ := N0.out.on hb5
  rcases hget with ⟨i, u, hi, hit, rfl, hou⟩ | ⟨hno, _⟩
  case inr =>
    obtain ⟨j, hj, he⟩ := HYES.out
    exact absurd he (hno j hj)
  obtain ⟨ob, HX⟩ : ∃ o, Hid (os.getD i po0 = o) := ⟨_, (rfl : _ = _)⟩
  have HFI : Hid (os.find? (fun o => decide (o.id = qid)) = some ob) := by unfold Hid; rw [← HX.out]; exact find_at os qid HSO.out i hi hit
  rw [HX.out] at hou ⊢
  have HD : Hid (doO os ⟨6, qid, qa, qb, qc, qd, qw, qh, qp⟩ = .inl (setO os { ob with id := qa })) := by
    unfold Hid doO
    rw [if_neg (by simp), HFI.out]
    rfl
  obtain ⟨au, cu, hu, _⟩ := hou
  obtain ⟨mu, HMU⟩ : ∃ mu, Hid (ob.ps.length = mu) := ⟨_, (rfl : _ = _)⟩
  have HUO := hid_of2 (show RdP w5 u ob.ps from ⟨au, cu, hu, ‹_›⟩)
  rw [HMU.out] at hu
  subst hu
  have hbx : Below w5.heap.size w5 (w5.alloc (.cells #[.int .i64 qa, .int .i64 ob.x, .int .i64 ob.y, .int .i64 ob.pw, .int .i64 ob.ph, .slice au mu cu, .int .i64 ob.cx, .int .i64 ob.cy, .int .i64 ob.cw, .int .i64 ob.ch, .bool ob.sh] 80)) := (Below.refl _ _).alloc (Nat.le_refl _) _
  have HRX : Hid (RdO _ (.slice a n cap) os) := HR5.out.on hbx
  have HUX := hid_of2 (HUO.out.on hbx)
  have hbbX := hbb5.trans (hbx.mono hbb5.size)
  clear hi hit HX HFI N0 HR0 hbz hb5 hbx HR5 HUO
  unfold poV objV
  go_wp2_with fail
  have hset := rset_any (.slice a n cap) os { ob with id := qa } (.slice au mu cu) _ hos (fun x hx => Nat.lt_of_lt_of_le (HFB.out x hx) (hbbX).size) HSO HRX HUX
  unfold poV objV at hset
  refine hset.mono ?_
  clear hset
  rintro e w8 ⟨v8, rfl, ho8, hb8⟩
  have HO8 := hid_of2 ho8
  have hbb8 := hbbX.trans (hb8.mono hbbX.size)
  clear ho8 hb8
  go_wp2_with fail
  refine bodyPost_ret (v := .tuple #[v8, .int .i64 0]) (by simp [results, Tryd.results27, go_sem]) rfl ⟨hbb8, .inl ⟨_, _, HD.out, rfl, HO8.out⟩⟩
end
end Go.Proofs.YtjmkfcgnadpbaaaDoor.NI
