/- Walk: objects.Do. -/
import Derived.Test.YtkmolifgfbaboaaDoorOlI
import Derived.Test.YtkmolifgfbaboaaDoorBlkB
import Derived.Test.YtkmolifgfbaboaaDoorAddW
namespace Go.Proofs.YtkmolifgfbaboaaDoor
open Go.RowKit

/-- an op -/
structure Pq where
  kind : Int
  id : Int
  a : Int
  b : Int
  c : Int
  d : Int
  pw : Int
  ph : Int
  ps : List (Int × Int)
@[reducible] def opV (q : Pq) (u : Value) : Value := .agg #[.int .i64 q.kind, .int .i64 q.id, .int .i64 q.a, .int .i64 q.b, .int .i64 q.c, .int .i64 q.d, .int .i64 q.pw, .int .i64 q.ph, u]
/-- a new object of a picture -/
def freshO (q : Pq) : Po := ⟨q.id, 0, 0, q.pw, q.ph, q.ps, 0, 0, 20, 20, true⟩
/-- what an op makes of its object; none: no such kind -/
def actO (q : Pq) (o : Po) : Option Po :=
  if q.kind = 3 then some { o with x := q.a, y := q.b }
  else if q.kind = 4 then some { o with cx := q.a, cy := q.b, cw := q.c, ch := q.d }
  else if q.kind = 5 then some { o with sh := decide (q.a = 1) }
  else if q.kind = 6 then some { o with id := q.a }
  else if q.kind = 8 then some { o with ps := chL addP o.pw.toNat o.ps q.pw.toNat q.ph.toNat q.ps q.a q.b 0 0 o.pw o.ph }
  else if q.kind = 9 then some { o with ps := chL (fun _ z => z) o.pw.toNat o.ps q.pw.toNat q.ph.toNat q.ps q.a q.b 0 0 o.pw o.ph }
  else none
/-- what Do answers: objects, or the number of an error -/
def doO (os : List Po) (q : Pq) : List Po ⊕ Nat :=
  if q.kind = 2 then .inl (setO os (freshO q))
  else match os.find? (fun o => decide (o.id = q.id)) with
    | none => .inr 5
    | some o => if q.kind = 7 then .inl (dropO os q.id) else match actO q o with
      | none => .inr 3
      | some x => .inl (setO os x)
/-- what Do wants -/
structure DoPre (os : List Po) (q : Pq) : Prop where
  few : os.length ≤ 100
  pix : ∀ j, j < os.length → (os.getD j po0).ps.length ≤ 100
  sort : SortO os
  ok : ∀ j, j < os.length → checkL (os.getD j po0).pw (os.getD j po0).ph (os.getD j po0).ps = 0
  qpix : q.ps.length ≤ 100
  pic : q.kind = 8 ∨ q.kind = 9 → checkL q.pw q.ph q.ps = 0 ∧ -20 ≤ q.a ∧ q.a ≤ 20 ∧ -20 ≤ q.b ∧ q.b ≤ 20
def DoP (os : List Po) (q : Pq) (w : World) (e : Ending) (w' : World) : Prop :=
  Below w.heap.size w w' ∧ ((∃ v' qs, doO os q = .inl (qs.map Prod.fst) ∧ e = .returned (.tuple #[v', .nilIface]) ∧ OwnOb w' w.heap.size v' qs) ∨ (∃ c, doO os q = .inr c ∧ (c = 5 ∨ c = 3) ∧ e = .returned (.tuple #[.slice none 0 0, errV c])))

theorem find_at (os : List Po) (t : Int) (hs : SortO os) (i : Nat) (hi : i < os.length) (h : (os.getD i po0).id = t) : os.find? (fun o => decide (o.id = t)) = some (os.getD i po0) := by
  have e : ∀ k (hk : k < os.length), os.getD k po0 = os[k] := fun k hk => by rw [List.getD_eq_getElem?_getD, List.getElem?_eq_getElem hk]; rfl
  rw [List.find?_eq_some_iff_getElem]
  refine ⟨by simpa using h, i, hi, (e i hi).symm, fun j hj => ?_⟩
  have := hs j i hj hi
  rw [e j (by omega)] at this
  simp
  omega
theorem find_no (os : List Po) (t : Int) (h : ∀ j, j < os.length → (os.getD j po0).id ≠ t) : os.find? (fun o => decide (o.id = t)) = none := by
  rw [List.find?_eq_none]
  intro o ho
  obtain ⟨j, hj, e⟩ := List.mem_iff_getElem.1 ho
  have := h j hj
  rw [List.getD_eq_getElem?_getD, List.getElem?_eq_getElem hj] at this
  simp only [Option.getD_some] at this
  rw [e] at this
  simpa using this

set_option maxHeartbeats 8000000 in
set_option maxRecDepth 100000 in
theorem do_any (v : Value) (os : List Po) (q : Pq) (uq : Value) (w : World) (HP : Hid (DoPre os q)) (HR : Hid (RdO w v os)) (HU : Hid (RdP w uq q.ps)) :
    Calls Tryd.prog 5 #[v, opV q uq] w fun e w' => DoP os q w e w' := by
  obtain ⟨kd, qid, qa, qb, qc, qd, qw, qh, qp⟩ := q
  obtain ⟨a, cap, hv, hl, hcap⟩ := HR.out.shape
  obtain ⟨n, HN⟩ : ∃ n, Hid (os.length = n) := ⟨_, (rfl : _ = _)⟩
  rw [HN.out] at hv hl
  simp only [opV] at HU ⊢
  obtain ⟨ap, cp, hvp, _, _, _⟩ := HU.out
  obtain ⟨np, HNP⟩ : ∃ n, Hid (qp.length = n) := ⟨_, (rfl : _ = _)⟩
  rw [HNP.out] at hvp
  subst hvp
  have HPS : Hid (∀ j, j < os.length → (os.getD j po0).ps.length ≤ 100) := HP.out.pix
  have HSO : Hid (SortO os) := HP.out.sort
  have hos : os.length ≤ 100 := HP.out.few
  have hqp : qp.length ≤ 100 := HP.out.qpix
  have hbz : Below w.heap.size w (w.alloc (.cells #[.int .i64 kd, .int .i64 qid, .int .i64 qa, .int .i64 qb, .int .i64 qc, .int .i64 qd, .int .i64 qw, .int .i64 qh, .slice ap np cp] 27)) := (Below.refl _ _).alloc (Nat.le_refl _) _
  have N0 := nine_start w (.int .i64 kd) (.int .i64 qid) (.int .i64 qa) (.int .i64 qb) (.int .i64 qc) (.int .i64 qd) (.int .i64 qw) (.int .i64 qh) (.slice ap np cp) 27 w.heap.size rfl
  have HR0 : Hid (RdO _ v os) := HR.out.on hbz
  have HU0 : Hid (RdP _ _ _) := HU.out.on hbz
  subst hv
  by_cases h2 : kd = 2
  · subst h2
    have HD : Hid (doO os ⟨2, qid, qa, qb, qc, qd, qw, qh, qp⟩ = .inl (setO os (freshO ⟨2, qid, qa, qb, qc, qd, qw, qh, qp⟩))) := by unfold Hid doO; rw [if_pos rfl]
    go_enter Tryd.func5, Tryd.ntmps5
    go_wp2_with fail
    refine (fresh_any qid qw qh _ qp _ hqp HU0).mono ?_
    unfold objV
    rintro e w1 ⟨u1, rfl, ho1, hb1⟩
    have HU1 := hid_of2 (rdP_own ho1)
    have HR1 : Hid (RdO w1 (.slice a n cap) os) := HR0.out.on hb1
    have hbb1 := hbz.trans (hb1.mono hbz.size)
    obtain ⟨a1, c1, hu1⟩ := own_any ho1
    rw [HNP.out] at hu1
    subst hu1
    clear ho1 hb1 hbz N0 HR0 HU0
    go_wp2_with fail
    have hset := set_any (.slice a n cap) os (freshO ⟨2, qid, qa, qb, qc, qd, qw, qh, qp⟩) (.slice a1 np c1) w1 hos HPS.out hqp HSO HR1 HU1
    unfold poV objV freshO at hset
    refine hset.mono ?_
    clear hset
    rintro e w2 ⟨v2, qs, rfl, ho2, hq2, hb2⟩
    have HO2 := hide_ob (ho2.mono hbb1.size)
    have hbb2 := hbb1.trans (hb2.mono hbb1.size)
    have HQ2 := hid_of2 hq2
    obtain ⟨a2, c2, hv2⟩ := own_any ho2.1
    subst hv2
    clear ho2 hb2 hq2
    go_wp2_with fail
    go_ret2
    exact ⟨hbb2, .inl ⟨_, qs, by rw [HD.out, HQ2.out]; rfl, rfl, HO2.out⟩⟩
  have hk2 : (kd == 2) = false := by simpa using h2
  go_enter Tryd.func5, Tryd.ntmps5
  obtain ⟨X0, HX0⟩ : ∃ X0, Hid (w.alloc (.cells #[.int .i64 kd, .int .i64 qid, .int .i64 qa, .int .i64 qb, .int .i64 qc, .int .i64 qd, .int .i64 qw, .int .i64 qh, .slice ap np cp] 27) = X0) := ⟨_, (rfl : _ = _)⟩
  go_wp2_with fail
  rw [HX0.out] at N0 HR0 HU0 hbz ⊢
  refine (get_any _ os qid _ (by omega) HPS.out HSO HR0).mono ?_
  rintro e w5 ⟨hb5, hget⟩
  have N5 := hid_of2 (N0.on hb5)
  have HU5 := hid_of2 (HU0.out.on hb5)
  have HR5 : Hid (RdO w5 (.slice a n cap) os) := HR0.out.on hb5
  have hbb5 := hbz.trans (hb5.mono hbz.size)
  have hX0 : X0.heap.size = w.heap.size + 1 := by rw [← HX0.out]; simp
  have hw5 : w.heap.size + 1 ≤ w5.heap.size := by have := hb5.size; omega
  clear N0 HR0 HU0 hbz HX0
  rcases hget with ⟨i, u, hi, hit, rfl, hou⟩ | ⟨hnone, rfl⟩
  · obtain ⟨ob, HX⟩ : ∃ o, Hid (os.getD i po0 = o) := ⟨_, (rfl : _ = _)⟩
    have HFI : Hid (os.find? (fun o => decide (o.id = qid)) = some ob) := by unfold Hid; rw [← HX.out]; exact find_at os qid HSO.out i hi hit
    have hobp : ob.ps.length ≤ 100 := by rw [← HX.out]; exact HPS.out i hi
    have HOK : Hid (checkL ob.pw ob.ph ob.ps = 0) := by unfold Hid; rw [← HX.out]; exact HP.out.ok i hi
    have HFD : Hid (∃ j, j < os.length ∧ (os.getD j po0).id = qid) := ⟨i, hi, hit⟩
    rw [HX.out] at hou ⊢
    have HUO := hid_of2 (rdP_own hou)
    obtain ⟨mu, HMU⟩ : ∃ mu, Hid (ob.ps.length = mu) := ⟨_, (rfl : _ = _)⟩
    obtain ⟨au, cu, hu⟩ := own_any hou
    rw [HMU.out] at hu
    subst hu
    clear hou hi hit hb5 HX
    have hbx5 : Below w5.heap.size w5 (w5.alloc (.cells #[.int .i64 ob.id, .int .i64 ob.x, .int .i64 ob.y, .int .i64 ob.pw, .int .i64 ob.ph, .slice au mu cu, .int .i64 ob.cx, .int .i64 ob.cy, .int .i64 ob.cw, .int .i64 ob.ch, .bool ob.sh] 41)) := (Below.refl _ _).alloc (Nat.le_refl _) _
    have E5 := hid_of2 (eleven_start w5 (.int .i64 ob.id) (.int .i64 ob.x) (.int .i64 ob.y) (.int .i64 ob.pw) (.int .i64 ob.ph) (.slice au mu cu) (.int .i64 ob.cx) (.int .i64 ob.cy) (.int .i64 ob.cw) (.int .i64 ob.ch) (.bool ob.sh) 41 w5.heap.size rfl)
    have N6 := hid_of2 (N5.out.on hbx5)
    have HU6 := hid_of2 (HU5.out.on hbx5)
    have HUO6 := hid_of2 (HUO.out.on hbx5)
    have HR6 : Hid (RdO _ (.slice a n cap) os) := HR5.out.on hbx5
    have hbb6 := hbb5.trans (hbx5.mono hbb5.size)
    clear HU5 hbx5
    obtain ⟨m0, m1, m2, m3, m4, m5, m6, m7, m8, mf0, mf1, mf2, mf3, mf4, mf5, mf6, mf7, mf8, mlt⟩ := N6.out
    obtain ⟨k0, k1, k2, k3, k4, k5, k6, k7, k8, kf0, kf1, kf2, kf3, kf4, kf5, kf6, kf7, kf8, klt⟩ := N5.out
    unfold poV objV
    by_cases h4 : kd = 4
    · subst h4
      have HD : Hid (doO os ⟨4, qid, qa, qb, qc, qd, qw, qh, qp⟩ = .inl (setO os { ob with cx := qa, cy := qb, cw := qc, ch := qd })) := by
        unfold Hid doO
        rw [if_neg (by simp), HFI.out]
        rfl
      have hbx : Below w5.heap.size w5 (w5.alloc (.cells #[.int .i64 ob.id, .int .i64 ob.x, .int .i64 ob.y, .int .i64 ob.pw, .int .i64 ob.ph, .slice au mu cu, .int .i64 qa, .int .i64 qb, .int .i64 qc, .int .i64 qd, .bool ob.sh] 41)) := (Below.refl _ _).alloc (Nat.le_refl _) _
      have HRX : Hid (RdO _ (.slice a n cap) os) := HR5.out.on hbx
      have HUX := hid_of2 (HUO.out.on hbx)
      have hbbX := hbb5.trans (hbx.mono hbb5.size)
      clear HUO HR5
      go_wp2_with fail
      have hset := set_any (.slice a n cap) os { ob with cx := qa, cy := qb, cw := qc, ch := qd } (.slice au mu cu) _ hos HPS.out (hobp) HSO HRX HUX
      unfold poV objV at hset
      refine hset.mono ?_
      clear hset
      rintro e w8 ⟨v8, qs, rfl, ho8, hq8, hb8⟩
      have HO8 := hide_ob (ho8.mono hbbX.size)
      have hbb8 := hbbX.trans (hb8.mono hbbX.size)
      have HQ8 := hid_of2 hq8
      obtain ⟨a8, c8, hv8⟩ := own_any ho8.1
      subst hv8
      clear ho8 hb8 hq8
      go_wp2_with fail
      go_ret2
      exact ⟨hbb8, .inl ⟨_, qs, by rw [HD.out, HQ8.out], rfl, HO8.out⟩⟩
    by_cases h5 : kd = 5
    · subst h5
      have HD : Hid (doO os ⟨5, qid, qa, qb, qc, qd, qw, qh, qp⟩ = .inl (setO os { ob with sh := decide (qa = 1) })) := by
        unfold Hid doO
        rw [if_neg (by simp), HFI.out]
        rfl
      have hbx : Below w5.heap.size w5 (w5.alloc (.cells #[.int .i64 ob.id, .int .i64 ob.x, .int .i64 ob.y, .int .i64 ob.pw, .int .i64 ob.ph, .slice au mu cu, .int .i64 ob.cx, .int .i64 ob.cy, .int .i64 ob.cw, .int .i64 ob.ch, .bool (qa == 1)] 41)) := (Below.refl _ _).alloc (Nat.le_refl _) _
      have HRX : Hid (RdO _ (.slice a n cap) os) := HR5.out.on hbx
      have HUX := hid_of2 (HUO.out.on hbx)
      have hbbX := hbb5.trans (hbx.mono hbb5.size)
      clear HUO HR5
      go_wp2_with fail
      have hset := set_any (.slice a n cap) os { ob with sh := decide (qa = 1) } (.slice au mu cu) _ hos HPS.out (hobp) HSO HRX HUX
      unfold poV objV at hset
      refine hset.mono ?_
      clear hset
      rintro e w8 ⟨v8, qs, rfl, ho8, hq8, hb8⟩
      have HO8 := hide_ob (ho8.mono hbbX.size)
      have hbb8 := hbbX.trans (hb8.mono hbbX.size)
      have HQ8 := hid_of2 hq8
      obtain ⟨a8, c8, hv8⟩ := own_any ho8.1
      subst hv8
      clear ho8 hb8 hq8
      go_wp2_with fail
      go_ret2
      exact ⟨hbb8, .inl ⟨_, qs, by rw [HD.out, HQ8.out], rfl, HO8.out⟩⟩
    by_cases h6 : kd = 6
    · subst h6
      have HD : Hid (doO os ⟨6, qid, qa, qb, qc, qd, qw, qh, qp⟩ = .inl (setO os { ob with id := qa })) := by
        unfold Hid doO
        rw [if_neg (by simp), HFI.out]
        rfl
      have hbx : Below w5.heap.size w5 (w5.alloc (.cells #[.int .i64 qa, .int .i64 ob.x, .int .i64 ob.y, .int .i64 ob.pw, .int .i64 ob.ph, .slice au mu cu, .int .i64 ob.cx, .int .i64 ob.cy, .int .i64 ob.cw, .int .i64 ob.ch, .bool ob.sh] 41)) := (Below.refl _ _).alloc (Nat.le_refl _) _
      have HRX : Hid (RdO _ (.slice a n cap) os) := HR5.out.on hbx
      have HUX := hid_of2 (HUO.out.on hbx)
      have hbbX := hbb5.trans (hbx.mono hbb5.size)
      clear HUO HR5
      go_wp2_with fail
      have hset := set_any (.slice a n cap) os { ob with id := qa } (.slice au mu cu) _ hos HPS.out (hobp) HSO HRX HUX
      unfold poV objV at hset
      refine hset.mono ?_
      clear hset
      rintro e w8 ⟨v8, qs, rfl, ho8, hq8, hb8⟩
      have HO8 := hide_ob (ho8.mono hbbX.size)
      have hbb8 := hbbX.trans (hb8.mono hbbX.size)
      have HQ8 := hid_of2 hq8
      obtain ⟨a8, c8, hv8⟩ := own_any ho8.1
      subst hv8
      clear ho8 hb8 hq8
      go_wp2_with fail
      go_ret2
      exact ⟨hbb8, .inl ⟨_, qs, by rw [HD.out, HQ8.out], rfl, HO8.out⟩⟩
    by_cases h3 : kd = 3
    · subst h3
      have HD : Hid (doO os ⟨3, qid, qa, qb, qc, qd, qw, qh, qp⟩ = .inl (setO os { ob with x := qa, y := qb })) := by
        unfold Hid doO
        rw [if_neg (by simp), HFI.out]
        rfl
      have hbx : Below w5.heap.size w5 (w5.alloc (.cells #[.int .i64 ob.id, .int .i64 qa, .int .i64 qb, .int .i64 ob.pw, .int .i64 ob.ph, .slice au mu cu, .int .i64 ob.cx, .int .i64 ob.cy, .int .i64 ob.cw, .int .i64 ob.ch, .bool ob.sh] 41)).drew := ((Below.refl _ _).alloc (Nat.le_refl _) _).drew
      have HRX : Hid (RdO _ (.slice a n cap) os) := HR5.out.on hbx
      have HUX := hid_of2 (HUO.out.on hbx)
      have hbbX := hbb5.trans (hbx.mono hbb5.size)
      go_wp2_with fail
      refine wp_region_held_drew (S := (fun w' => w'.cell? ⟨w.heap.size, 2, none⟩ = some (.int .i64 qa) ∧ w'.cell? ⟨w.heap.size, 3, none⟩ = some (.int .i64 qb))) (by kernel_rfl) ?_ (fun hHeld => ?_)
      · exact ⟨m2, m3⟩
      refine wpAnyH_take (i := 0) (oi := ({ dst := some 33, op := Op.fieldAddr 27 (Operand.tmp 3) 2, type := 0, pos := "objects.go:71", after := #[], guard := none } : Oper)) (v := ?_) rfl (by kernel_rfl) (by kernel_rfl) (by kernel_rfl) (fun _ _ _ h => h) (Or.inl ⟨by rfl, ?_⟩) (by assumption) ?_
      rotate_left
      · (intro w hSw; (try dsimp only at hSw); go_simp; try with_reducible rfl)
      try simp only [Act.put, List.setIfInBounds_toArray, List.set_cons_zero, List.set_cons_succ]
      refine wpAnyH_take (i := 1) (oi := ({ dst := some 34, op := Op.load 3 (Operand.tmp 33), type := 3, pos := "objects.go:71", after := #[{ on := 0, ground := Ground.data }], guard := none } : Oper)) (v := ?_) rfl (by kernel_rfl) (by kernel_rfl) (by kernel_rfl) (fun _ _ _ h => h) (Or.inl ⟨by rfl, ?_⟩) (by assumption) ?_
      rotate_left
      · (intro w hSw; (try dsimp only at hSw); go_simp; try with_reducible rfl)
      try simp only [Act.put, List.setIfInBounds_toArray, List.set_cons_zero, List.set_cons_succ]
      refine wpAnyH_take (i := 2) (oi := ({ dst := some 35, op := Op.fieldAddr 27 (Operand.tmp 3) 3, type := 0, pos := "objects.go:71", after := #[{ on := 5, ground := Ground.gcOnly Departure.lateStores }], guard := none } : Oper)) (v := ?_) rfl (by kernel_rfl) (by kernel_rfl) (by kernel_rfl) (fun _ _ _ h => h) (Or.inl ⟨by rfl, ?_⟩) (by assumption) ?_
      rotate_left
      · (intro w hSw; (try dsimp only at hSw); go_simp; try with_reducible rfl)
      try simp only [Act.put, List.setIfInBounds_toArray, List.set_cons_zero, List.set_cons_succ]
      refine wpAnyH_take (i := 3) (oi := ({ dst := some 36, op := Op.load 3 (Operand.tmp 35), type := 3, pos := "objects.go:71", after := #[{ on := 2, ground := Ground.data }, { on := 5, ground := Ground.gcOnly Departure.lateStores }], guard := none } : Oper)) (v := ?_) rfl (by kernel_rfl) (by kernel_rfl) (by kernel_rfl) (fun _ _ _ h => h) (Or.inl ⟨by rfl, ?_⟩) (by assumption) ?_
      rotate_left
      · (intro w hSw; (try dsimp only at hSw); go_simp; try with_reducible rfl)
      try simp only [Act.put, List.setIfInBounds_toArray, List.set_cons_zero, List.set_cons_succ]
      refine wpAnyH_take (i := 4) (oi := ({ dst := some 37, op := Op.fieldAddr 41 (Operand.tmp 6) 1, type := 0, pos := "objects.go:71", after := #[{ on := 0, ground := Ground.phase }, { on := 1, ground := Ground.phase }, { on := 2, ground := Ground.textOnly Departure.lateStores }, { on := 3, ground := Ground.textOnly Departure.lateStores }], guard := none } : Oper)) (v := ?_) rfl (by kernel_rfl) (by kernel_rfl) (by kernel_rfl) (fun _ _ _ h => h) (Or.inl ⟨by rfl, ?_⟩) (by assumption) ?_
      rotate_left
      · (intro w hSw; (try dsimp only at hSw); go_simp; try with_reducible rfl)
      try simp only [Act.put, List.setIfInBounds_toArray, List.set_cons_zero, List.set_cons_succ]
      refine wpAnyH_ready (rs := [5]) (by kernel_rfl) (by simp) ?_
      refine AllReadyH.cons (o := ({ dst := none, op := Op.store 3 (Operand.tmp 37) (Operand.tmp 34), type := 0, pos := "objects.go:71", after := #[{ on := 4, ground := Ground.data }, { on := 1, ground := Ground.data }, { on := 0, ground := Ground.phase }, { on := 1, ground := Ground.phase }, { on := 2, ground := Ground.textOnly Departure.lateStores }, { on := 3, ground := Ground.textOnly Departure.lateStores }], guard := none } : Oper)) rfl (fun K_ hK => ?_) AllReadyH.nil
      go_simp
      refine hK.out _ _ ?_ (fun hHeld => ?_)
      · exact ⟨(cell_old w5 _ w.heap.size 2 klt).trans k2, (cell_old w5 _ w.heap.size 3 klt).trans k3⟩
      clear hK K_
      try simp only [Act.put, List.setIfInBounds_toArray, List.set_cons_zero, List.set_cons_succ]
      refine wpAnyH_take (i := 6) (oi := ({ dst := some 38, op := Op.fieldAddr 41 (Operand.tmp 6) 2, type := 0, pos := "objects.go:71", after := #[{ on := 0, ground := Ground.phase }, { on := 1, ground := Ground.phase }, { on := 2, ground := Ground.phase }, { on := 3, ground := Ground.phase }, { on := 4, ground := Ground.phase }, { on := 5, ground := Ground.phase }], guard := none } : Oper)) (v := ?_) rfl (by kernel_rfl) (by kernel_rfl) (by kernel_rfl) (fun _ _ _ h => h) (Or.inl ⟨by rfl, ?_⟩) (by assumption) ?_
      rotate_left
      · (intro w hSw; (try dsimp only at hSw); go_simp; try with_reducible rfl)
      try simp only [Act.put, List.setIfInBounds_toArray, List.set_cons_zero, List.set_cons_succ]
      refine wpAnyH_ready (rs := [7]) (by kernel_rfl) (by simp) ?_
      refine AllReadyH.cons (o := ({ dst := none, op := Op.store 3 (Operand.tmp 38) (Operand.tmp 36), type := 0, pos := "objects.go:71", after := #[{ on := 6, ground := Ground.data }, { on := 3, ground := Ground.data }, { on := 5, ground := Ground.chain }, { on := 0, ground := Ground.phase }, { on := 1, ground := Ground.phase }, { on := 2, ground := Ground.phase }, { on := 3, ground := Ground.phase }, { on := 4, ground := Ground.phase }, { on := 5, ground := Ground.phase }], guard := none } : Oper)) rfl (fun K_ hK => ?_) AllReadyH.nil
      go_simp
      refine hK.out _ _ ?_ (fun hHeld => ?_)
      · exact ⟨(cell_old w5 _ w.heap.size 2 klt).trans k2, (cell_old w5 _ w.heap.size 3 klt).trans k3⟩
      clear hK K_
      try simp only [Act.put, List.setIfInBounds_toArray, List.set_cons_zero, List.set_cons_succ]
      refine wpAnyH_done (by kernel_rfl) ?_ _
      go_wp2_with fail
      have hset := set_any (.slice a n cap) os { ob with x := qa, y := qb } (.slice au mu cu) _ hos HPS.out (hobp) HSO HRX HUX
      unfold poV objV at hset
      refine hset.mono ?_
      clear hset
      rintro e w8 ⟨v8, qs, rfl, ho8, hq8, hb8⟩
      have HO8 := hide_ob (ho8.mono hbbX.size)
      have hbb8 := hbbX.trans (hb8.mono hbbX.size)
      have HQ8 := hid_of2 hq8
      obtain ⟨a8, c8, hv8⟩ := own_any ho8.1
      subst hv8
      clear ho8 hb8 hq8
      go_wp2_with fail
      go_ret2
      exact ⟨hbb8, .inl ⟨_, qs, by rw [HD.out, HQ8.out], rfl, HO8.out⟩⟩
    by_cases h8 : kd = 8
    · subst h8
      obtain ⟨zc, z1, z2, z3, z4⟩ := HP.out.pic (by simp)
      simp only at zc z1 z2 z3 z4
      have hok := HOK.out
      obtain ⟨QW, QH, e1, e2, i1, i2, i3, i4, i5, _⟩ := check_zero _ _ _ HOK.out
      obtain ⟨ZW, ZH, e3, e4, _⟩ := check_zero _ _ _ zc
      subst e3 e4
      rw [e1, e2] at hok
      have HCP := hid_of2 hok
      have HCQ := hid_of2 zc
      have hlen : (chL addP QW ob.ps ZW ZH qp qa qb 0 0 QW QH).length = ob.ps.length := by simp [chL, grid_len]
      have HD : Hid (doO os ⟨8, qid, qa, qb, qc, qd, (ZW : Int), (ZH : Int), qp⟩ = .inl (setO os { ob with ps := chL addP QW ob.ps ZW ZH qp qa qb 0 0 QW QH })) := by
        unfold Hid doO
        rw [if_neg (by simp), HFI.out]
        simp only [actO]
        rw [if_neg (by simp), if_neg (by simp), if_neg (by simp), if_neg (by simp), if_neg (by simp), if_pos trivial, e1, e2]
        simp
      simp only [e1, e2] at E5 HUO6 HU6 HR6 hbb6 m0 m1 m2 m3 m4 m5 m6 m7 m8 mf0 mf1 mf2 mf3 mf4 mf5 mf6 mf7 mf8 mlt
      clear hok zc
      go_wp2_with fail
      refine (add_any QW QH ZW ZH _ _ ob.ps qp qa qb _ HCP HCQ HUO6 HU6 z1 z2 z3 z4).mono ?_
      unfold picV
      rintro e w7 ⟨u7, rfl, ho7, hb7⟩
      have HO7 := hide_own (own_mono ho7 (show w5.heap.size + 1 ≤ _ by simp))
      obtain ⟨a7, c7, hu7⟩ := own_any ho7
      rw [hlen, HMU.out] at hu7
      subst hu7
      have E7 := E5.out.on hb7
      have hbb7 := hbb6.trans (hb7.mono hbb6.size)
      obtain ⟨s0, s1, s2, s3, s4, s5, s6, s7, s8, s9, s10, sf0, sf1, sf2, sf3, sf4, sf5, sf6, sf7, sf8, sf9, sf10, slt⟩ := E7
      have HUX := hid_of2 (rdP_own (ownsRow_setCell_below (ownsRow_setCell_below (ownsRow_setCell_below HO7.out (a := ⟨w5.heap.size, 3, none⟩) (show w5.heap.size < w5.heap.size + 1 by omega) (.int .i64 (QW : Int))) (a := ⟨w5.heap.size, 4, none⟩) (show w5.heap.size < w5.heap.size + 1 by omega) (.int .i64 (QH : Int))) (a := ⟨w5.heap.size, 5, none⟩) (show w5.heap.size < w5.heap.size + 1 by omega) (.slice a7 mu c7)))
      have hbbX : Below w.heap.size w (((w7.setCell ⟨w5.heap.size, 3, none⟩ (.int .i64 (QW : Int))).setCell ⟨w5.heap.size, 4, none⟩ (.int .i64 (QH : Int))).setCell ⟨w5.heap.size, 5, none⟩ (.slice a7 mu c7)) := ((hbb7.setCell (show w.heap.size ≤ w5.heap.size by omega) _).setCell (show w.heap.size ≤ w5.heap.size by omega) _).setCell (show w.heap.size ≤ w5.heap.size by omega) _
      have HRX : Hid (RdO _ (.slice a n cap) os) := HR.out.on hbbX
      have hnl : (chL addP QW ob.ps ZW ZH qp qa qb 0 0 QW QH).length ≤ 100 := by rw [hlen]; exact hobp
      clear ho7 hb7 HO7 hbb7 HUO6 HU6 HR6 m0 m1 m2 m3 m4 m5 m6 m7 m8 mf0 mf1 mf2 mf3 mf4 mf5 mf6 mf7 mf8 mlt
      go_wp2_with fail
      have hset := set_any (.slice a n cap) os { ob with ps := chL addP QW ob.ps ZW ZH qp qa qb 0 0 QW QH } (.slice a7 mu c7) _ hos HPS.out (hnl) HSO HRX HUX
      unfold poV objV at hset
      simp only [e1, e2] at hset
      refine hset.mono ?_
      clear hset
      rintro e w8 ⟨v8, qs, rfl, ho8, hq8, hb8⟩
      have HO8 := hide_ob (ho8.mono hbbX.size)
      have hbb8 := hbbX.trans (hb8.mono hbbX.size)
      have HQ8 := hid_of2 hq8
      obtain ⟨a8, c8, hv8⟩ := own_any ho8.1
      subst hv8
      clear ho8 hb8 hq8
      go_wp2_with fail
      go_ret2
      exact ⟨hbb8, .inl ⟨_, qs, by rw [HD.out, HQ8.out]; simp only [e1, e2], rfl, HO8.out⟩⟩
    by_cases h9 : kd = 9
    · subst h9
      obtain ⟨zc, z1, z2, z3, z4⟩ := HP.out.pic (by simp)
      simp only at zc z1 z2 z3 z4
      have hok := HOK.out
      obtain ⟨QW, QH, e1, e2, i1, i2, i3, i4, i5, _⟩ := check_zero _ _ _ HOK.out
      obtain ⟨ZW, ZH, e3, e4, _⟩ := check_zero _ _ _ zc
      subst e3 e4
      rw [e1, e2] at hok
      have HCP := hid_of2 hok
      have HCQ := hid_of2 zc
      have hlen : (chL (fun _ z => z) QW ob.ps ZW ZH qp qa qb 0 0 QW QH).length = ob.ps.length := by simp [chL, grid_len]
      have HD : Hid (doO os ⟨9, qid, qa, qb, qc, qd, (ZW : Int), (ZH : Int), qp⟩ = .inl (setO os { ob with ps := chL (fun _ z => z) QW ob.ps ZW ZH qp qa qb 0 0 QW QH })) := by
        unfold Hid doO
        rw [if_neg (by simp), HFI.out]
        simp only [actO]
        rw [if_neg (by simp), if_neg (by simp), if_neg (by simp), if_neg (by simp), if_neg (by simp), if_neg (by simp), if_pos trivial, e1, e2]
        simp
      simp only [e1, e2] at E5 HUO6 HU6 HR6 hbb6 m0 m1 m2 m3 m4 m5 m6 m7 m8 mf0 mf1 mf2 mf3 mf4 mf5 mf6 mf7 mf8 mlt
      clear hok zc
      go_wp2_with fail
      refine (put_any QW QH ZW ZH _ _ ob.ps qp qa qb _ HCP HCQ HUO6 HU6 z1 z2 z3 z4).mono ?_
      unfold picV
      rintro e w7 ⟨u7, rfl, ho7, hb7⟩
      have HO7 := hide_own (own_mono ho7 (show w5.heap.size + 1 ≤ _ by simp))
      obtain ⟨a7, c7, hu7⟩ := own_any ho7
      rw [hlen, HMU.out] at hu7
      subst hu7
      have E7 := E5.out.on hb7
      have hbb7 := hbb6.trans (hb7.mono hbb6.size)
      obtain ⟨s0, s1, s2, s3, s4, s5, s6, s7, s8, s9, s10, sf0, sf1, sf2, sf3, sf4, sf5, sf6, sf7, sf8, sf9, sf10, slt⟩ := E7
      have HUX := hid_of2 (rdP_own (ownsRow_setCell_below (ownsRow_setCell_below (ownsRow_setCell_below HO7.out (a := ⟨w5.heap.size, 3, none⟩) (show w5.heap.size < w5.heap.size + 1 by omega) (.int .i64 (QW : Int))) (a := ⟨w5.heap.size, 4, none⟩) (show w5.heap.size < w5.heap.size + 1 by omega) (.int .i64 (QH : Int))) (a := ⟨w5.heap.size, 5, none⟩) (show w5.heap.size < w5.heap.size + 1 by omega) (.slice a7 mu c7)))
      have hbbX : Below w.heap.size w (((w7.setCell ⟨w5.heap.size, 3, none⟩ (.int .i64 (QW : Int))).setCell ⟨w5.heap.size, 4, none⟩ (.int .i64 (QH : Int))).setCell ⟨w5.heap.size, 5, none⟩ (.slice a7 mu c7)) := ((hbb7.setCell (show w.heap.size ≤ w5.heap.size by omega) _).setCell (show w.heap.size ≤ w5.heap.size by omega) _).setCell (show w.heap.size ≤ w5.heap.size by omega) _
      have HRX : Hid (RdO _ (.slice a n cap) os) := HR.out.on hbbX
      have hnl : (chL (fun _ z => z) QW ob.ps ZW ZH qp qa qb 0 0 QW QH).length ≤ 100 := by rw [hlen]; exact hobp
      clear ho7 hb7 HO7 hbb7 HUO6 HU6 HR6 m0 m1 m2 m3 m4 m5 m6 m7 m8 mf0 mf1 mf2 mf3 mf4 mf5 mf6 mf7 mf8 mlt
      go_wp2_with fail
      have hset := set_any (.slice a n cap) os { ob with ps := chL (fun _ z => z) QW ob.ps ZW ZH qp qa qb 0 0 QW QH } (.slice a7 mu c7) _ hos HPS.out (hnl) HSO HRX HUX
      unfold poV objV at hset
      simp only [e1, e2] at hset
      refine hset.mono ?_
      clear hset
      rintro e w8 ⟨v8, qs, rfl, ho8, hq8, hb8⟩
      have HO8 := hide_ob (ho8.mono hbbX.size)
      have hbb8 := hbbX.trans (hb8.mono hbbX.size)
      have HQ8 := hid_of2 hq8
      obtain ⟨a8, c8, hv8⟩ := own_any ho8.1
      subst hv8
      clear ho8 hb8 hq8
      go_wp2_with fail
      go_ret2
      exact ⟨hbb8, .inl ⟨_, qs, by rw [HD.out, HQ8.out]; simp only [e1, e2], rfl, HO8.out⟩⟩
    by_cases h7 : kd = 7
    · subst h7
      have HD : Hid (doO os ⟨7, qid, qa, qb, qc, qd, qw, qh, qp⟩ = .inl (dropO os qid)) := by
        unfold Hid doO
        rw [if_neg (by simp), HFI.out]
        rfl
      go_wp2_with fail
      refine (drop_any _ os qid _ hos HPS.out HSO HR6 HFD).mono ?_
      rintro e w8 ⟨v8, qs, rfl, ho8, hq8, hb8⟩
      have HO8 := hide_ob (ho8.mono hbb6.size)
      have hbb8 := hbb6.trans (hb8.mono hbb6.size)
      have HQ8 := hid_of2 hq8
      obtain ⟨a8, c8, hv8⟩ := own_any ho8.1
      subst hv8
      clear ho8 hb8 hq8
      go_wp2_with fail
      go_ret2
      exact ⟨hbb8, .inl ⟨_, qs, by rw [HD.out, HQ8.out], rfl, HO8.out⟩⟩
    have HD : Hid (doO os ⟨kd, qid, qa, qb, qc, qd, qw, qh, qp⟩ = .inr 3) := by
      unfold Hid doO
      rw [if_neg (by simpa using h2), HFI.out]
      simp only [actO]
      rw [if_neg h7, if_neg h3, if_neg h4, if_neg h5, if_neg h6, if_neg h8, if_neg h9]
    have x3 : (kd == 3) = false := by simpa using h3
    have x4 : (kd == 4) = false := by simpa using h4
    have x5 : (kd == 5) = false := by simpa using h5
    have x6 : (kd == 6) = false := by simpa using h6
    have x8 : (kd == 8) = false := by simpa using h8
    have x9 : (kd == 9) = false := by simpa using h9
    have x7 : (kd == 7) = false := by simpa using h7
    go_wp2_with fail
    go_ret2
    exact ⟨hbb6, .inr ⟨3, HD.out, .inr rfl, rfl⟩⟩
  · have HD : Hid (doO os ⟨kd, qid, qa, qb, qc, qd, qw, qh, qp⟩ = .inr 5) := by
      unfold Hid doO
      rw [if_neg (by simpa using h2), find_no os qid hnone]
    have hbx5 : Below w.heap.size w (w5.alloc (.cells #[.int .i64 0, .int .i64 0, .int .i64 0, .int .i64 0, .int .i64 0, .slice none 0 0, .int .i64 0, .int .i64 0, .int .i64 0, .int .i64 0, .bool false] 41)) := hbb5.alloc hbb5.size _
    unfold poV objV
    clear hnone
    go_wp2_with fail
    go_ret2
    exact ⟨hbx5, .inr ⟨5, HD.out, .inl rfl, rfl⟩⟩
end Go.Proofs.YtkmolifgfbaboaaDoor
