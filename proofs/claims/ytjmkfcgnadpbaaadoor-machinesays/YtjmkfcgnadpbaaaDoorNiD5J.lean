/- DoObject: no row of pixels lies in one block. -/
import Derived.Test.YtjmkfcgnadpbaaaDoorNiD2J
namespace Go.Proofs.YtjmkfcgnadpbaaaDoor.NI
open Go.RowKit
section
variable [Inhabited Blk]
set_option maxHeartbeats 8000000 in
set_option maxRecDepth 100000 in
theorem rdo_7 (v : Value) (os : List Po) (q : Pq) (uq : Value) (w : World) (hk : q.kind = 7) (hyes : ∃ j, j < os.length ∧ (os.getD j po0).id = q.id) (HFB : Hid (∀ x, Forb.s x → x < w.heap.size)) (HP : Hid (DoPre os q)) (HR : Hid (RdO w v os)) (HU : Hid (RdP w uq q.ps)) :
    Calls Tryd.prog 27 #[v, opV q uq] w fun e w' => RDoP os q w e w' := by
  obtain ⟨kd, qid, qa, qb, qc, qd, qw, qh, qp⟩ := q
  simp only at hk hyes
  subst hk
  have HYES := hid_of2 hyes
  clear hyes
  obtain ⟨a, cap, hv, hl, hcap⟩ := HR.out.shape
  obtain ⟨n, HN⟩ : ∃ n, Hid (os.length = n) := ⟨_, (rfl : _ = _)⟩
  rw [HN.out] at hv hl
  simp only [opV] at HU ⊢
  obtain ⟨ap, cp, hvp, _, _, _⟩ := HU.out
  subst hvp
  have HSO : Hid (SortO os) := HP.out.sort
  have hos : os.length ≤ 100 := HP.out.few
  have hbz : Below w.heap.size w (w.alloc (.cells #[.int .i64 7, .int .i64 qid, .int .i64 qa, .int .i64 qb, .int .i64 qc, .int .i64 qd, .int .i64 qw, .int .i64 qh, .slice ap qp.length cp] 51)) := (Below.refl _ _).alloc (Nat.le_refl _) _
  have N0 := hid_of2 (nine_start w (.int .i64 7) (.int .i64 qid) (.int .i64 qa) (.int .i64 qb) (.int .i64 qc) (.int .i64 qd) (.int .i64 qw) (.int .i64 qh) (.slice ap qp.length cp) 51 w.heap.size rfl)
  have HR0 : Hid (RdO _ v os) := HR.out.on hbz
  subst hv
  go_enter Tryd.func27, Tryd.ntmps27
  go_wp2_with fail
  refine (rget_any _ os qid _ (by omega) HR0).mono ?_
  rintro e w5 ⟨hb5, hget⟩
  have hbb5 := hbz.trans (hb5.mono hbz.size)
  have HR5 : Hid (RdO w5 (.slice a n cap) os) := HR0.out.on hb5
  obtain ⟨k0, k1, k2, k3, k4, k5, k6, k7, k8, kf0, kf1, kf2, kf3, kf4, kf5, kf6, kf7, kf8, klt⟩ := N0.out.on hb5
  rcases hget with ⟨i, u, hi, hit, rfl, hou⟩ | ⟨hno, _⟩
  case inr =>
    obtain ⟨j, hj, he⟩ := HYES.out
    exact absurd he (hno j hj)
  obtain ⟨ob, HX⟩ : ∃ o, Hid (os.getD i po0 = o) := ⟨_, (rfl : _ = _)⟩
  have HFI : Hid (os.find? (fun o => decide (o.id = qid)) = some ob) := by unfold Hid; rw [← HX.out]; exact find_at os qid HSO.out i hi hit
  rw [HX.out] at hou ⊢
  have HD : Hid (doO os ⟨7, qid, qa, qb, qc, qd, qw, qh, qp⟩ = .inl (dropO os qid)) := by
    unfold Hid doO
    rw [if_neg (by simp), HFI.out]
    rfl
  obtain ⟨au, cu, hu, _⟩ := hou
  obtain ⟨mu, HMU⟩ : ∃ mu, Hid (ob.ps.length = mu) := ⟨_, (rfl : _ = _)⟩
  rw [HMU.out] at hu
  subst hu
  have hbx : Below w5.heap.size w5 (w5.alloc (.cells #[.int .i64 ob.id, .int .i64 ob.x, .int .i64 ob.y, .int .i64 ob.pw, .int .i64 ob.ph, .slice au mu cu, .int .i64 ob.cx, .int .i64 ob.cy, .int .i64 ob.cw, .int .i64 ob.ch, .bool ob.sh] 80)) := (Below.refl _ _).alloc (Nat.le_refl _) _
  have HNX := hid_of2 ((N0.out.on hb5).on hbx)
  have HRX0 : Hid (RdO _ (.slice a n cap) os) := HR5.out.on hbx
  have hbbX := hbb5.trans (hbx.mono hbb5.size)
  have hnl : n ≤ 100 := by rw [← HN.out]; exact hos
  clear hi hit HX HFI N0 HR0 hbz hb5 HR5 HSO HP
  unfold poV objV
  go_wp2_with fail
  obtain ⟨W5, HW5⟩ : ∃ W, Hid (w5.alloc (.cells #[.int .i64 ob.id, .int .i64 ob.x, .int .i64 ob.y, .int .i64 ob.pw, .int .i64 ob.ph, .slice au mu cu, .int .i64 ob.cx, .int .i64 ob.cy, .int .i64 ob.cw, .int .i64 ob.ch, .bool ob.sh] 80) = W) := ⟨_, (rfl : _ = _)⟩
  rw [HW5.out] at HNX HRX0 hbbX hbx ⊢
  clear k0 k1 k2 k3 k4 k5 k6 k7 k8 kf0 kf1 kf2 kf3 kf4 kf5 kf6 kf7 kf8 klt
  go_loopw [8, 9] (fun o i wr => ∃ (k : Nat) (out : List Po), k ≤ n ∧ i = .int .i64 k ∧ Hid (ShO W5 wr o out) ∧ Hid ((os.take k).filter (fun o => decide (o.id ≠ qid)) = out) ∧ Below W5.heap.size W5 wr) (fun _ i _ => n - (intOf i).toNat)
  case atStart => exact ⟨0, [], by omega, rfl, so_nil _ _, by unfold Hid; simp, Below.refl _ _⟩
  case round =>
    obtain ⟨k, out, hkn, rfl, HO, HF, hbr⟩ := hrel
    have hol : out.length ≤ 100 := by
      have := flt_len os qid k
      rw [HF.out] at this
      omega
    by_cases hlt : k < n
    · have hki : (k : Int) < (n : Int) := by omega
      have hki0 : (0 : Int) ≤ (k : Int) := by omega
      obtain ⟨p, HX⟩ : ∃ p, Hid (os.getD k po0 = p) := ⟨_, (rfl : _ = _)⟩
      obtain ⟨g, o, ua, q, uc, rfl, hg, OC, HUP, HM⟩ := HRX0.out.at hlt HX
      obtain ⟨c0, c1, c2, c3, c4, c5, c6, c7, c8, c9, c10⟩ := OC.on hg hbr
      obtain ⟨k0, k1, k2, k3, k4, k5, k6, k7, k8, kf0, kf1, kf2, kf3, kf4, kf5, kf6, kf7, kf8, klt⟩ := HNX.out.on hbr
      have HST := hid_of2 (flt_next os qid k (by rw [HN.out]; exact hlt) HX.out)
      go_wp2_with fail
      go_quiet (fail)
      by_cases he : p.id = qid
      · have hee : (p.id == qid) = true := by simpa using he
        have HST2 : Hid ((os.take (k + 1)).filter (fun o => decide (o.id ≠ qid)) = out) := by unfold Hid; rw [HST.out, HF.out, if_neg (by simpa using he)]; simp
        go_wp2_with fail
        go_roundw
        case rel => exact ⟨k + 1, _, by omega, by go_num, HO.out.on (below_drewN (Below.refl _ _) _), HST2, below_drewN hbr _⟩
        case measure => simp [intOf]; omega
      · have hee : (p.id == qid) = false := by simpa using he
        have HST2 : Hid ((os.take (k + 1)).filter (fun o => decide (o.id ≠ qid)) = out ++ [p]) := by unfold Hid; rw [HST.out, HF.out, if_pos he]
        obtain ⟨v8, w8, hr8, ho8, hb8⟩ := so_app (W0 := W5) (w := wr.drewN nq) (HO.out.on (below_drewN (Below.refl _ _) _)) (below_drewN hbr _) p (.slice ua q uc) HUP.out (by omega)
        have HR8 := hid_of2 hr8
        have HO8 := hid_of2 ho8
        clear hr8 ho8
        go_wp2_with (at_builtin; refine Lib.wpList_append_run _ rfl _ _ _ _ rfl _ _ rfl rfl _ _ HR8.out ?_)
        go_roundw
        case rel => exact ⟨k + 1, _, by omega, by go_num, HO8, HST2, hb8⟩
        case measure => simp [intOf]; omega
    · have hki : ¬ (k : Int) < (n : Int) := by omega
      obtain rfl : n = k := by omega
      have htk : os.take n = os := List.take_of_length_le (by rw [HN.out]; omega)
      have hff := HF.out
      rw [htk] at hff
      have HFF : Hid (dropO os qid = out) := hff
      clear hff htk HF
      go_wp2_with fail
      refine bodyPost_ret (by simp [results, Tryd.results27, go_sem]; rfl) rfl ⟨hbbX.trans (hbr.mono hbbX.size), .inl ⟨_, _, HD.out, rfl, by rw [HFF.out]; exact HO.out.rd (fun x hx => Nat.lt_of_lt_of_le (HFB.out x hx) (hbbX).size) hbr⟩⟩
set_option maxHeartbeats 8000000 in
set_option maxRecDepth 100000 in
theorem rdo_other (v : Value) (os : List Po) (q : Pq) (uq : Value) (w : World) (hk : q.kind < 2 ∨ 9 < q.kind) (hyes : ∃ j, j < os.length ∧ (os.getD j po0).id = q.id) (HP : Hid (DoPre os q)) (HR : Hid (RdO w v os)) (HU : Hid (RdP w uq q.ps)) :
    Calls Tryd.prog 27 #[v, opV q uq] w fun e w' => RDoP os q w e w' := by
  obtain ⟨kd, qid, qa, qb, qc, qd, qw, qh, qp⟩ := q
  simp only at hk hyes
  have kk2 : (kd == 2) = false := by simp; omega
  have kk3 : (kd == 3) = false := by simp; omega
  have kk4 : (kd == 4) = false := by simp; omega
  have kk5 : (kd == 5) = false := by simp; omega
  have kk6 : (kd == 6) = false := by simp; omega
  have kk7 : (kd == 7) = false := by simp; omega
  have kk8 : (kd == 8) = false := by simp; omega
  have kk9 : (kd == 9) = false := by simp; omega
  have HYES := hid_of2 hyes
  clear hyes
  obtain ⟨a, cap, hv, hl, hcap⟩ := HR.out.shape
  obtain ⟨n, HN⟩ : ∃ n, Hid (os.length = n) := ⟨_, (rfl : _ = _)⟩
  rw [HN.out] at hv hl
  simp only [opV] at HU ⊢
  obtain ⟨ap, cp, hvp, _, _, _⟩ := HU.out
  subst hvp
  have HSO : Hid (SortO os) := HP.out.sort
  have hos : os.length ≤ 100 := HP.out.few
  have hbz : Below w.heap.size w (w.alloc (.cells #[.int .i64 kd, .int .i64 qid, .int .i64 qa, .int .i64 qb, .int .i64 qc, .int .i64 qd, .int .i64 qw, .int .i64 qh, .slice ap qp.length cp] 51)) := (Below.refl _ _).alloc (Nat.le_refl _) _
  have N0 := hid_of2 (nine_start w (.int .i64 kd) (.int .i64 qid) (.int .i64 qa) (.int .i64 qb) (.int .i64 qc) (.int .i64 qd) (.int .i64 qw) (.int .i64 qh) (.slice ap qp.length cp) 51 w.heap.size rfl)
  have HR0 : Hid (RdO _ v os) := HR.out.on hbz
  subst hv
  go_enter Tryd.func27, Tryd.ntmps27
  go_wp2_with fail
  refine (rget_any _ os qid _ (by omega) HR0).mono ?_
  rintro e w5 ⟨hb5, hget⟩
  have hbb5 := hbz.trans (hb5.mono hbz.size)
  have HR5 : Hid (RdO w5 (.slice a n cap) os) := HR0.out.on hb5
  obtain ⟨k0, k1, k2, k3, k4, k5, k6, k7, k8, kf0, kf1, kf2, kf3, kf4, kf5, kf6, kf7, kf8, klt⟩ := N0.out.on hb5
  rcases hget with ⟨i, u, hi, hit, rfl, hou⟩ | ⟨hno, _⟩
  case inr =>
    obtain ⟨j, hj, he⟩ := HYES.out
    exact absurd he (hno j hj)
  obtain ⟨ob, HX⟩ : ∃ o, Hid (os.getD i po0 = o) := ⟨_, (rfl : _ = _)⟩
  have HFI : Hid (os.find? (fun o => decide (o.id = qid)) = some ob) := by unfold Hid; rw [← HX.out]; exact find_at os qid HSO.out i hi hit
  rw [HX.out] at hou ⊢
  have HD : Hid (doO os ⟨kd, qid, qa, qb, qc, qd, qw, qh, qp⟩ = .inr 3) := by
    have a2 : ¬ kd = 2 := by omega
    have a3 : ¬ kd = 3 := by omega
    have a4 : ¬ kd = 4 := by omega
    have a5 : ¬ kd = 5 := by omega
    have a6 : ¬ kd = 6 := by omega
    have a7 : ¬ kd = 7 := by omega
    have a8 : ¬ kd = 8 := by omega
    have a9 : ¬ kd = 9 := by omega
    unfold Hid doO
    rw [if_neg a2, HFI.out]
    simp only [if_neg a7]
    unfold actO
    simp only [if_neg a3, if_neg a4, if_neg a5, if_neg a6, if_neg a8, if_neg a9]
  obtain ⟨au, cu, hu, _⟩ := hou
  obtain ⟨mu, HMU⟩ : ∃ mu, Hid (ob.ps.length = mu) := ⟨_, (rfl : _ = _)⟩
  rw [HMU.out] at hu
  subst hu
  clear hi hit HX HFI N0 HR0 hbz hb5 HR5 HSO HP hk
  unfold poV objV
  go_wp2_with fail
  refine bodyPost_ret (v := .tuple #[.slice none 0 0, .int .i64 3]) (by simp [results, Tryd.results27, go_sem]) rfl ⟨?_, .inr ⟨3, HD.out, by omega, rfl⟩⟩
  repeat (refine Below.setCell ?_ (by simp) _)
  exact hbb5.alloc hbb5.size _

end
end Go.Proofs.YtjmkfcgnadpbaaaDoor.NI
