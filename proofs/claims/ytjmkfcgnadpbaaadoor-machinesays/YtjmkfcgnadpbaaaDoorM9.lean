/- Some of the walks, in one text. -/
import Derived.Test.YtjmkfcgnadpbaaaDoorM8
import Derived.StillTailTactics
import Derived.Maps.AppendAt
/- Walk: machine.New. -/
namespace Go.Proofs.YtjmkfcgnadpbaaaDoor
open Go.RowKit Go.Maps

/-- what New answers -/
def NewP (qs : List Pq) (w : World) (e : Ending) (w' : World) : Prop :=
  Below w.heap.size w w' ∧ ((bkC qs ≠ 0 ∧ e = .returned (.tuple #[.pointer none, errV (bkC qs)])) ∨ (bkC qs = 0 ∧ ∃ b F, e = .returned (.tuple #[.pointer (some ⟨b, 0, none⟩), .nilIface]) ∧ Mac w' w.heap.size b F qs ms0 ∧ ∀ g ∈ F, g < w'.heap.size))

theorem own_box {w : World} {T : TypeId} {B : Nat} (cs : List Value) (s : Nat) (hB : B ≤ w.heap.size) (hl : cs.length = s) : (w.alloc (.cells cs.toArray T)).ownsRow B T s (.slice (some ⟨w.heap.size, 0, none⟩) 1 1) 1 cs :=
  ⟨by omega, .inr ⟨w.heap.size, 1, cs.toArray, rfl, hB, heap_alloc_new w _, by omega, by unfold maxLen; omega, by simp [hl], by rw [← hl]; simp⟩⟩

set_option maxHeartbeats 8000000 in
set_option maxRecDepth 100000 in
theorem mnew_any (v : Value) (qs : List Pq) (w : World) (HS : Hid (Shapes w)) (h1 : 0 < w.heap.size) (HR : Hid (RdQ w v qs)) (hps : ∀ j, j < qs.length → (qs.getD j pq0).ps.length ≤ 100) (hn : qs.length ≤ 1000) :
    Calls Tryd.prog 10 #[v] w fun e w' => NewP qs w e w' := by
  obtain ⟨a, cap, hv, _, _⟩ := HR.out.shape
  obtain ⟨n, HN⟩ : ∃ n, Hid (qs.length = n) := ⟨_, (rfl : _ = _)⟩
  rw [HN.out] at hv
  subst hv
  obtain ⟨c, HC⟩ : ∃ c, Hid (bkC qs = c) := ⟨_, (rfl : _ = _)⟩
  have HPS : Hid (∀ j, j < qs.length → (qs.getD j pq0).ps.length ≤ 100) := hps
  clear hps
  go_enter Tryd.func10, Tryd.ntmps10
  go_wp2_with fail
  refine (bookCheck_any _ qs _ HS h1 HR (fun j hj => by have := HPS.out j hj; omega) hn c HC).mono ?_
  rintro e w1 ⟨rfl, hb1⟩
  cases c with
  | succ c =>
    rw [show errV (c + 1) = .iface 58 (.int .i64 ((c + 1 : Nat) : Int)) from rfl]
    go_wp2_with fail
    go_ret2
    exact ⟨hb1, .inl ⟨by rw [HC.out]; omega, by rw [HC.out]; rfl⟩⟩
  | zero =>
    have HBK : Hid (Book qs) := book_of HC.out
    have hfew := HBK.out.few
    have HR1 : Hid (RdQ w1 (.slice a n cap) qs) := HR.out.on hb1
    rw [show errV 0 = Value.nilIface from rfl]
    go_wp2_with fail
    refine (mown_any _ qs _ (by omega) HPS.out HR1).mono ?_
    rintro e w2 ⟨v2, qv, rfl, ho2, hq2, hb2⟩
    have hbb2 := hb1.trans (hb2.mono hb1.size)
    have HR2 : Hid (RdQ w2 (.slice a n cap) qs) := HR.out.on hbb2
    obtain ⟨a2, c2, hv2⟩ := own_any ho2.1
    subst hv2
    have HO2 : Hid (OwnQ w2 w.heap.size (.slice a2 qv.length c2) qv) := ⟨own_mono ho2.1 hb1.size, fun q hq => own_mono (ho2.2 q hq) hb1.size⟩
    have HQ2 := hid_of2 hq2
    clear ho2 hb2 hq2 HR1
    go_wp2_with fail
    refine (close_any _ qs _ HR2 hn).mono ?_
    rintro e w3 ⟨bm, rfl, hbm, hmp, hb3⟩
    have hbb3 := hbb2.trans (hb3.mono hbb2.size)
    have HO3 : Hid (OwnQ w3 w.heap.size (.slice a2 qv.length c2) qv) := HO2.out.on hb3
    have HMP := hid_of2 hmp
    have hbm2 : w.heap.size ≤ bm := Nat.le_trans hbb2.size hbm
    clear hmp hb3 HR2 HO2 hbm
    go_wp2_with fail
    go_ret2
    have hbx : Below w3.heap.size w3 (w3.alloc (.cells #[.slice a2 qv.length c2, .map (some bm), .int .i64 0, .slice none 0 0, .int .i64 0, .int .i64 0, .slice none 0 0, .slice none 0 0, .slice none 0 0] 62)) := (Below.refl _ _).alloc (Nat.le_refl _) _
    refine ⟨hbb3.trans (hbx.mono hbb3.size), .inr ⟨HC.out, w3.heap.size, [w3.heap.size], rfl, ⟨.slice a2 qv.length c2, bm, .slice none 0 0, .slice none 0 0, .slice none 0 0, .slice none 0 0, own_box _ 9 hbb3.size rfl, ⟨⟨qv, HO3.out.on hbx, HQ2.out⟩, hbm2, ⟨clD qs qs.length, (map_only HMP.out (Only.below hbx [])).mono (by omega), fun p j hc => clD_at HBK.out _ (Nat.le_refl _) p j hc hc.on _⟩, World.ownsRow_nil _ _ _ _, ⟨[], ⟨World.ownsRow_nil _ _ _ _, by simp⟩, rfl⟩, ⟨[], ⟨World.ownsRow_nil _ _ _ _, by simp⟩, rfl⟩, ⟨[], ⟨World.ownsRow_nil _ _ _ _, by simp⟩, rfl⟩⟩, by simp, by simp [Value.ownBlock], by simp [Value.ownBlock], by simp; exact hbb3.size⟩, by simp⟩⟩
end Go.Proofs.YtjmkfcgnadpbaaaDoor
/- What a machine plays: more fuel; stretches of ops that open and close no loop. -/
namespace Go.Proofs.YtjmkfcgnadpbaaaDoor
open Go.RowKit

theorem play_more (qs : List Pq) : ∀ (f k : Nat) (s : Ms), playM qs f s ≠ .inr 8 → playM qs (f + k) s = playM qs f s := by
  intro f
  induction f with
  | zero =>
    intro k s h
    unfold playM at h
    by_cases hd : doneM qs s
    · cases k with
      | zero => rfl
      | succ k => rw [show 0 + (k + 1) = k + 1 by omega]; unfold playM; rw [if_pos hd, if_pos hd]
    · rw [if_neg hd] at h; exact absurd rfl h
  | succ f ih =>
    intro k s h
    rw [show f + 1 + k = (f + k) + 1 by omega]
    unfold playM at h ⊢
    by_cases hd : doneM qs s
    · rw [if_pos hd, if_pos hd]
    · rw [if_neg hd] at h
      rw [if_neg hd, if_neg hd]
      cases hs : stepM qs s with
      | inl s' => rw [hs] at h; exact ih k s' h
      | inr c => rfl

/-- what ops change of a machine, besides its place and its loops -/
structure Dt where
  bv : Int
  ba : Int
  obs : List Po
  kept : List Po
  frs : List Pf
def dt0 : Dt := ⟨0, 0, [], [], []⟩
def mkM (pc : Nat) (o : List (Nat × Nat)) (d : Dt) : Ms := ⟨pc, o, d.bv, d.ba, d.obs, d.kept, d.frs⟩
theorem ms0_mk : ms0 = mkM 0 [] dt0 := rfl
/-- the frame that a wait tells, H the head -/
def tellD (H : Pq) (d : Dt) (t : Int) : Pf := ⟨H.a, H.b, seenL H.a.toNat H.b.toNat (d.bv, d.ba) d.obs, t⟩
def actD (H : Pq) (d : Dt) (q : Pq) : Dt ⊕ Nat :=
  if q.kind = 1 then .inl d
  else if q.kind = 10 then .inl { d with bv := q.a, ba := q.b }
  else if q.kind = 11 then if 40 ≤ d.frs.length then .inr 7 else .inl { d with frs := d.frs ++ [tellD H d q.a] }
  else if q.kind = 14 then .inl { d with kept := d.obs }
  else if q.kind = 15 then .inl { d with obs := d.kept }
  else match doO d.obs q with
    | .inl rs => .inl { d with obs := rs }
    | .inr c => .inr c
def runD (H : Pq) : List Pq → Dt → Dt ⊕ Nat
  | [], d => .inl d
  | q :: r, d => match actD H d q with
    | .inl d' => runD H r d'
    | .inr c => .inr c
theorem runD_app (H : Pq) : ∀ (a b : List Pq) (d : Dt), runD H (a ++ b) d = match runD H a d with | .inl d' => runD H b d' | .inr c => .inr c := by
  intro a
  induction a with
  | nil => intro b d; rfl
  | cons q a ih =>
    intro b d
    simp only [List.cons_append, runD]
    cases actD H d q with
    | inl d' => exact ih b d'
    | inr c => rfl
/-- an op that opens and closes no loop, and isn't the last -/
structure PlainQ (q : Pq) : Prop where
  n12 : q.kind ≠ 12
  n13 : q.kind ≠ 13
  n16 : q.kind ≠ 16
theorem doM_plain (qs : List Pq) (pc : Nat) (o : List (Nat × Nat)) (d : Dt) (q : Pq) (h : PlainQ q) :
    doM qs (mkM pc o d) q = match actD (qs.getD 0 pq0) d q with | .inl d' => .inl (mkM pc o d') | .inr c => .inr c := by
  have h1 := h.n12
  have h2 := h.n13
  unfold doM actD
  split
  · rfl
  split
  · rfl
  split
  · by_cases h40 : 40 ≤ d.frs.length
    · rw [if_pos h40, if_pos (show 40 ≤ (mkM pc o d).frs.length from h40)]
    · rw [if_neg h40, if_neg (show ¬ 40 ≤ (mkM pc o d).frs.length from h40)]; rfl
  try rw [if_neg h1, if_neg h2]
  split
  · rfl
  split
  · rfl
  rw [show (mkM pc o d).obs = d.obs from rfl]
  cases doO d.obs q <;> rfl
theorem drop_cons {qs : List Pq} {pc : Nat} {q : Pq} {r : List Pq} (h : qs.drop pc = q :: r) : qs.getD pc pq0 = q ∧ qs.drop (pc + 1) = r ∧ pc < qs.length := by
  have hl : pc < qs.length := by
    have := congrArg List.length h
    simp at this
    omega
  have := List.getElem_cons_drop (i := pc) hl
  rw [h] at this
  exact ⟨by rw [getD_pq hl]; exact (List.cons.inj this).1, (List.cons.inj this).2, hl⟩
theorem step_plain (qs : List Pq) (pc : Nat) (o : List (Nat × Nat)) (d : Dt) (q : Pq) (hq : qs.getD pc pq0 = q) (h : PlainQ q) :
    stepM qs (mkM pc o d) = match actD (qs.getD 0 pq0) d q with | .inl d' => .inl (mkM (pc + 1) o d') | .inr c => .inr c := by
  unfold stepM
  rw [if_neg (show ¬ doneM qs (mkM pc o d) from fun h' => h.n16 (by unfold doneM at h'; rw [← hq]; exact h'))]
  rw [show (mkM pc o d).pc = pc from rfl, hq, doM_plain qs pc o d q h]
  cases actD (qs.getD 0 pq0) d q <;> rfl
/-- a stretch of plain ops is played -/
theorem play_run (qs : List Pq) (o : List (Nat × Nat)) (f : Nat) : ∀ (r rest : List Pq) (pc : Nat) (d : Dt), qs.drop pc = r ++ rest → (∀ q ∈ r, PlainQ q) →
    playM qs (r.length + f) (mkM pc o d) = match runD (qs.getD 0 pq0) r d with | .inl d' => playM qs f (mkM (pc + r.length) o d') | .inr c => .inr c := by
  intro r
  induction r with
  | nil => intro rest pc d _ _; simp [runD]
  | cons q r ih =>
    intro rest pc d hd hp
    obtain ⟨h1, h2, h3⟩ := drop_cons (by simpa using hd)
    have hq := hp q (by simp)
    rw [show (q :: r).length + f = (r.length + f) + 1 by simp; omega]
    rw [playM, if_neg (show ¬ doneM qs (mkM pc o d) from fun h' => hq.n16 (by unfold doneM at h'; rw [← h1]; exact h')), step_plain qs pc o d q h1 hq]
    simp only [runD]
    cases actD (qs.getD 0 pq0) d q with
    | inr c => rfl
    | inl d' =>
      have := ih rest (pc + 1) d' h2 (fun z hz => hp z (by simp [hz]))
      rw [show pc + (q :: r).length = pc + 1 + r.length by simp; omega]
      exact this
theorem play_done (qs : List Pq) (f : Nat) (s : Ms) (h : doneM qs s) : playM qs f s = .inl s.frs := by
  cases f <;> (unfold playM; rw [if_pos h])
/-- a book without loops is played -/
theorem play_straight (qs r : List Pq) (E : Pq) (hq : qs = r ++ [E]) (hE : E.kind = 16) (hp : ∀ q ∈ r, PlainQ q) (f : Nat) (hf : r.length ≤ f) :
    playM qs f ms0 = match runD (qs.getD 0 pq0) r dt0 with | .inl d => .inl d.frs | .inr c => .inr c := by
  have := play_run qs [] (f - r.length) r [E] 0 dt0 (by simpa using hq) hp
  rw [show r.length + (f - r.length) = f by omega, ← ms0_mk] at this
  rw [this]
  cases runD (qs.getD 0 pq0) r dt0 with
  | inr c => rfl
  | inl d =>
    simp only
    rw [play_done]
    · rfl
    · unfold doneM
      show (qs.getD (0 + r.length) pq0).kind = 16
      rw [hq, Nat.zero_add]
      simp [List.getD_eq_getElem?_getD, hE]
end Go.Proofs.YtjmkfcgnadpbaaaDoor
/- What a machine plays: loops. -/
namespace Go.Proofs.YtjmkfcgnadpbaaaDoor
open Go.RowKit

theorem play_step (qs : List Pq) (f : Nat) (s s' : Ms) (hd : ¬ doneM qs s) (h : stepM qs s = .inl s') : playM qs (f + 1) s = playM qs f s' := by
  rw [playM, if_neg hd, h]
theorem not_done {qs : List Pq} {pc : Nat} {o : List (Nat × Nat)} {d : Dt} {q : Pq} (hq : qs.getD pc pq0 = q) (h : q.kind ≠ 16) : ¬ doneM qs (mkM pc o d) :=
  fun h' => h (by unfold doneM at h'; rw [← hq]; exact h')
theorem step_loop0 (qs : List Pq) (pc : Nat) (o : List (Nat × Nat)) (d : Dt) (q : Pq) (hq : qs.getD pc pq0 = q) (hk : q.kind = 12) (ha : q.a = 0) :
    stepM qs (mkM pc o d) = .inl (mkM (cloF qs pc + 1) o d) := by
  unfold stepM
  rw [if_neg (not_done hq (by omega)), show (mkM pc o d).pc = pc from rfl, hq]
  unfold doM
  rw [if_neg (by omega), if_neg (by omega), if_neg (by omega), if_pos hk, if_pos ha]
  rfl
theorem step_loop (qs : List Pq) (pc : Nat) (o : List (Nat × Nat)) (d : Dt) (q : Pq) (hq : qs.getD pc pq0 = q) (hk : q.kind = 12) (ha : q.a ≠ 0) :
    stepM qs (mkM pc o d) = .inl (mkM (pc + 1) (o ++ [(pc, q.a.toNat)]) d) := by
  unfold stepM
  rw [if_neg (not_done hq (by omega)), show (mkM pc o d).pc = pc from rfl, hq]
  unfold doM
  rw [if_neg (by omega), if_neg (by omega), if_neg (by omega), if_pos hk, if_neg ha]
  rfl
theorem last_snoc (o : List (Nat × Nat)) (x : Nat × Nat) : (o ++ [x]).getD ((o ++ [x]).length - 1) (0, 0) = x := by
  simp [List.getD_eq_getElem?_getD]
theorem step_back (qs : List Pq) (pc p l : Nat) (o : List (Nat × Nat)) (d : Dt) (q : Pq) (hq : qs.getD pc pq0 = q) (hk : q.kind = 13) (hl : 1 < l) :
    stepM qs (mkM pc (o ++ [(p, l)]) d) = .inl (mkM (p + 1) (o ++ [(p, l - 1)]) d) := by
  unfold stepM
  rw [if_neg (not_done hq (by omega)), show (mkM pc (o ++ [(p, l)]) d).pc = pc from rfl, hq]
  unfold doM
  rw [if_neg (by omega), if_neg (by omega), if_neg (by omega), if_neg (by omega), if_pos hk]
  simp only [show (mkM pc (o ++ [(p, l)]) d).opn = o ++ [(p, l)] from rfl, last_snoc, if_pos hl]
  simp [mkM]
theorem step_out (qs : List Pq) (pc p l : Nat) (o : List (Nat × Nat)) (d : Dt) (q : Pq) (hq : qs.getD pc pq0 = q) (hk : q.kind = 13) (hl : l ≤ 1) :
    stepM qs (mkM pc (o ++ [(p, l)]) d) = .inl (mkM (pc + 1) o d) := by
  unfold stepM
  rw [if_neg (not_done hq (by omega)), show (mkM pc (o ++ [(p, l)]) d).pc = pc from rfl, hq]
  unfold doM
  rw [if_neg (by omega), if_neg (by omega), if_neg (by omega), if_neg (by omega), if_pos hk]
  simp only [show (mkM pc (o ++ [(p, l)]) d).opn = o ++ [(p, l)] from rfl, last_snoc, if_neg (show ¬ 1 < l by omega)]
  simp [mkM]
/-- from pc on the ops lead, in n steps, to pc + m, and make of the data what B says -/
def Leads (qs : List Pq) (pc n m : Nat) (B : Dt → Dt ⊕ Nat) : Prop :=
  ∀ (f : Nat) (o : List (Nat × Nat)) (d : Dt), playM qs (n + f) (mkM pc o d) = match B d with | .inl d' => playM qs f (mkM (pc + m) o d') | .inr c => .inr c
def itB (B : Dt → Dt ⊕ Nat) : Nat → Dt → Dt ⊕ Nat
  | 0, d => .inl d
  | t + 1, d => match B d with
    | .inl d' => itB B t d'
    | .inr c => .inr c
theorem Leads.then {qs : List Pq} {pc n m n' m' : Nat} {B B' : Dt → Dt ⊕ Nat} (h : Leads qs pc n m B) (h' : Leads qs (pc + m) n' m' B') : Leads qs pc (n + n') (m + m') (fun d => match B d with | .inl d' => B' d' | .inr c => .inr c) := by
  intro f o d
  dsimp only
  rw [Nat.add_assoc, h]
  cases B d with
  | inr c => rfl
  | inl d' => rw [← Nat.add_assoc]; exact h' f o d'
theorem leads_run (qs r rest : List Pq) (pc : Nat) (hd : qs.drop pc = r ++ rest) (hp : ∀ q ∈ r, PlainQ q) : Leads qs pc r.length r.length (runD (qs.getD 0 pq0) r) :=
  fun f o d => play_run qs o f r rest pc d hd hp
/-- the rounds of a loop -/
theorem leads_rounds {qs : List Pq} {p n m : Nat} {B : Dt → Dt ⊕ Nat} (hB : Leads qs (p + 1) n m B) {N : Pq} (hN : qs.getD (p + 1 + m) pq0 = N) (hk : N.kind = 13) :
    ∀ (t : Nat) (f : Nat) (o : List (Nat × Nat)) (d : Dt), 1 ≤ t → playM qs (t * (n + 1) + f) (mkM (p + 1) (o ++ [(p, t)]) d) = match itB B t d with | .inl d' => playM qs f (mkM (p + 1 + m + 1) o d') | .inr c => .inr c := by
  intro t
  induction t with
  | zero => intro f o d h; omega
  | succ t ih =>
    intro f o d _
    rw [show (t + 1) * (n + 1) + f = n + (t * (n + 1) + f + 1) by rw [Nat.succ_mul]; omega, hB]
    simp only [itB]
    cases B d with
    | inr c => rfl
    | inl d' =>
      simp only
      rcases Nat.eq_zero_or_pos t with rfl | ht
      · rw [play_step qs _ _ _ (not_done hN (by omega)) (step_out qs _ p 1 o d' N hN hk (by omega))]
        simp [itB]
      · rw [play_step qs _ _ _ (not_done hN (by omega)) (step_back qs _ p (t + 1) o d' N hN hk (by omega))]
        exact ih f o d' ht
/-- a loop whole -/
theorem leads_loop {qs : List Pq} {p n m : Nat} {B : Dt → Dt ⊕ Nat} (hB : Leads qs (p + 1) n m B) {L N : Pq} (hL : qs.getD p pq0 = L) (hkL : L.kind = 12) (hN : qs.getD (p + 1 + m) pq0 = N) (hk : N.kind = 13) (t : Nat) (ht : L.a = (t : Int))
    (hC : Clo qs p (p + 1 + m)) : Leads qs p (t * (n + 1) + 1) (m + 2) (itB B t) := by
  intro f o d
  rw [show t * (n + 1) + 1 + f = t * (n + 1) + f + 1 by omega]
  rcases Nat.eq_zero_or_pos t with rfl | h
  · rw [play_step qs _ _ _ (not_done hL (by omega)) (step_loop0 qs p o d L hL hkL (by omega)), hC.fn]
    simp [itB, show p + (m + 2) = p + 1 + m + 1 by omega]
  · rw [play_step qs _ _ _ (not_done hL (by omega)) (step_loop qs p o d L hL hkL (by omega)), ht, Int.toNat_natCast, leads_rounds hB hN hk t f o d h]
    simp [show p + (m + 2) = p + 1 + m + 1 by omega]
/-- so often one behind the other -/
def repQ (r : List Pq) : Nat → List Pq
  | 0 => []
  | t + 1 => r ++ repQ r t
theorem itB_run (H : Pq) (r : List Pq) : ∀ (t : Nat) (d : Dt), itB (runD H r) t d = runD H (repQ r t) d := by
  intro t
  induction t with
  | zero => intro d; rfl
  | succ t ih =>
    intro d
    simp only [itB, repQ, runD_app]
    cases runD H r d with
    | inr c => rfl
    | inl d' => exact ih d'
theorem repQ_mem {r : List Pq} {q : Pq} : ∀ {t : Nat}, q ∈ repQ r t → q ∈ r := by
  intro t
  induction t with
  | zero => intro h; simp [repQ] at h
  | succ t ih =>
    intro h
    simp only [repQ, List.mem_append] at h
    rcases h with h | h
    · exact h
    · exact ih h
theorem repQ_snoc (r : List Pq) (t : Nat) : repQ r (t + 1) = repQ r t ++ r := by
  induction t with
  | zero => simp [repQ]
  | succ t ih => rw [repQ, ih, ← List.append_assoc, ← repQ, ih]
theorem repQ_len (r : List Pq) (t : Nat) : (repQ r t).length = t * r.length := by
  induction t with
  | zero => simp [repQ]
  | succ t ih => rw [repQ, List.length_append, ih, Nat.succ_mul]; omega
theorem leads_play {qs : List Pq} {n m : Nat} {B : Dt → Dt ⊕ Nat} (h : Leads qs 0 n m B) {E : Pq} (hE : qs.getD m pq0 = E) (hk : E.kind = 16) (f : Nat) (hf : n ≤ f) :
    playM qs f ms0 = match B dt0 with | .inl d => .inl d.frs | .inr c => .inr c := by
  have := h (f - n) [] dt0
  rw [show n + (f - n) = f by omega, ← ms0_mk] at this
  rw [this]
  cases B dt0 with
  | inr c => rfl
  | inl d =>
    simp only
    rw [play_done]
    · rfl
    · unfold doneM
      show (qs.getD (0 + m) pq0).kind = 16
      rw [Nat.zero_add, hE, hk]
theorem dep_plain (qs r rest : List Pq) (pc : Nat) (hd : qs.drop pc = r ++ rest) (hp : ∀ q ∈ r, PlainQ q) : ∀ k, k ≤ r.length → dep qs (pc + k) = dep qs pc := by
  intro k
  induction k with
  | zero => intro _; rfl
  | succ k ih =>
    intro hk
    have h1 := ih (by omega)
    have hlen := congrArg List.length hd
    simp at hlen
    have hl : pc + k < qs.length := by omega
    have e : qs.getD (pc + k) pq0 = r[k]'(by omega) := by
      rw [getD_pq hl]
      have : (qs.drop pc)[k]? = (r ++ rest)[k]? := by rw [hd]
      rw [List.getElem?_drop, List.getElem?_append_left (by omega), List.getElem?_eq_getElem hl, List.getElem?_eq_getElem (by omega)] at this
      exact Option.some.inj this
    rw [← Nat.add_assoc, dep_succ qs (pc + k) hl, h1, e]
    have hq := hp (r[k]'(by omega)) (List.getElem_mem _)
    rcases opn_cases (r[k]'(by omega)) with ⟨a, _⟩ | ⟨a, _⟩ | ⟨_, _, a⟩
    · exact absurd a hq.n12
    · exact absurd a hq.n13
    · omega
/-- a loop with no loop inside ends behind its body -/
theorem clo_plain (qs body rest : List Pq) (L N : Pq) (p : Nat) (hd : qs.drop p = L :: body ++ N :: rest) (hkL : L.kind = 12) (hk : N.kind = 13) (hp : ∀ q ∈ body, PlainQ q) : Clo qs p (p + 1 + body.length) := by
  obtain ⟨h1, h2, h3⟩ := drop_cons (by simpa using hd)
  have hN : qs.drop (p + 1 + body.length) = N :: rest := by
    rw [← List.drop_drop, h2]; simp
  obtain ⟨n1, _, n3⟩ := drop_cons hN
  have hd1 : dep qs (p + 1) = dep qs p + 1 := by rw [dep_succ qs p h3, h1]; unfold opn; rw [if_pos hkL]
  have hb := dep_plain qs body (N :: rest) (p + 1) h2 hp
  refine ⟨by omega, n3, by rw [h1]; exact hkL, by rw [n1]; exact hk, ?_, fun k k1 k2 => ?_⟩
  · rw [dep_succ qs _ n3, hb _ (Nat.le_refl _), n1, hd1]
    unfold opn
    rw [if_neg (by omega), if_pos hk]
    omega
  · have := hb (k - (p + 1)) (by omega)
    rw [show p + 1 + (k - (p + 1)) = k by omega] at this
    omega
/-- a loop is as if it were told so often -/
theorem loop_told (pre body tail : List Pq) (L N E : Pq) (t : Nat) (hkL : L.kind = 12) (hL : L.a = (t : Int)) (hkN : N.kind = 13) (hE : E.kind = 16) (hp : ∀ q ∈ pre, PlainQ q) (hb : ∀ q ∈ body, PlainQ q) (ht : ∀ q ∈ tail, PlainQ q) (hne : 0 < pre.length) (f : Nat)
    (h1 : pre.length + (t * (body.length + 1) + 1) + tail.length ≤ f) :
    playM (pre ++ L :: (body ++ N :: (tail ++ [E]))) f ms0 = playM (pre ++ (repQ body t ++ (tail ++ [E]))) f ms0 := by
  obtain ⟨qs, hqs⟩ : ∃ qs, pre ++ L :: (body ++ N :: (tail ++ [E])) = qs := ⟨_, rfl⟩
  obtain ⟨rs, hrs⟩ : ∃ rs, pre ++ (repQ body t ++ (tail ++ [E])) = rs := ⟨_, rfl⟩
  rw [hqs, hrs]
  have hH : qs.getD 0 pq0 = rs.getD 0 pq0 := by
    rw [← hqs, ← hrs]
    simp [List.getD_eq_getElem?_getD, List.getElem?_append_left hne]
  have dp : qs.drop pre.length = L :: (body ++ N :: (tail ++ [E])) := by rw [← hqs]; simp
  obtain ⟨e1, e2, _⟩ := drop_cons dp
  have e3 : qs.drop (pre.length + 1 + body.length) = N :: (tail ++ [E]) := by rw [← List.drop_drop, e2]; simp
  obtain ⟨e4, e5, _⟩ := drop_cons e3
  have e6 : qs.drop (pre.length + 1 + body.length + 1 + tail.length) = [E] := by rw [← List.drop_drop, e5]; simp
  obtain ⟨e7, _, _⟩ := drop_cons e6
  have l1 := leads_run qs pre (L :: (body ++ N :: (tail ++ [E]))) 0 (by rw [← hqs]; rfl) hp
  have l2 := leads_run qs body (N :: (tail ++ [E])) (pre.length + 1) e2 hb
  have l3 := leads_loop l2 e1 hkL e4 hkN t hL (clo_plain qs body (tail ++ [E]) L N pre.length (by rw [dp]; simp) hkL hkN hb)
  have l4 := leads_run qs tail [E] (0 + pre.length + (body.length + 2)) (by rw [show 0 + pre.length + (body.length + 2) = pre.length + 1 + body.length + 1 by omega]; exact e5) ht
  have l5 := (l1.then (by rw [Nat.zero_add]; exact l3)).then (by rw [← Nat.add_assoc]; exact l4)
  have p1 := leads_play l5 (E := E) (by rw [← e7]; congr 1; omega) hE f h1
  have hall : ∀ q ∈ pre ++ repQ body t ++ tail, PlainQ q := by
    intro q hq
    rcases List.mem_append.1 hq with hq | hq
    · rcases List.mem_append.1 hq with hq | hq
      · exact hp q hq
      · exact hb q (repQ_mem hq)
    · exact ht q hq
  have p2 := play_straight rs (pre ++ repQ body t ++ tail) E (by rw [← hrs]; simp) hE hall f (by
    simp only [List.length_append, repQ_len]
    have : t * body.length ≤ t * (body.length + 1) := Nat.mul_le_mul_left _ (by omega)
    omega)
  rw [p1, p2, hH, runD_app, runD_app]
  cases runD (rs.getD 0 pq0) pre dt0 with
  | inr c => rfl
  | inl d =>
    simp only
    rw [itB_run]
    first
      | done
      | (generalize runD (rs.getD 0 pq0) (repQ body t) d = r
         rcases r with d' | c
         · simp only
           cases runD (rs.getD 0 pq0) tail d' <;> rfl
         · rfl)
end Go.Proofs.YtjmkfcgnadpbaaaDoor
/- Walk: machine.Play. -/
namespace Go.Proofs.YtjmkfcgnadpbaaaDoor
open Go.RowKit Go.Maps

/-- what Play answers -/
def playR (qs : List Pq) (fuel : Int) : List Pf ⊕ Nat := if bkC qs ≠ 0 then .inr (bkC qs) else playM qs (min fuel 400).toNat ms0
/-- what lies in memory of it -/
def PlayP (B : Nat) (r : List Pf ⊕ Nat) (w : World) (e : Ending) (w' : World) : Prop :=
  Below w.heap.size w w' ∧ ((∃ v' fv, e = .returned (.tuple #[v', .nilIface]) ∧ OwnFr w' B v' fv ∧ r = .inl (fv.map Prod.fst)) ∨ (∃ c, c ≠ 0 ∧ r = .inr c ∧ e = .returned (.tuple #[.slice none 0 0, errV c])))
theorem errV_pos {c : Nat} (h : c ≠ 0) : errV c = .iface 58 (.int .i64 (c : Int)) := by unfold errV; rw [if_neg h]
theorem stepM_way {qs : List Pq} {s s' : Ms} (hb : Book qs) (hw : Way qs s) (h : stepM qs s = .inl s') : Way qs s' := by
  by_cases hd : doneM qs s
  · unfold stepM at h
    rw [if_pos hd] at h
    obtain rfl := Sum.inl.inj h
    exact hw
  · rw [stepM_not hd] at h
    cases hr : doM qs s (qs.getD s.pc pq0) with
    | inl t => rw [hr] at h; obtain rfl := Sum.inl.inj h; exact step_way hb hw hd hr
    | inr c => rw [hr] at h; cases h
theorem stepM_err {qs : List Pq} {s : Ms} {c : Nat} (h : stepM qs s = .inr c) : c ≠ 0 := by
  by_cases hd : doneM qs s
  · unfold stepM at h
    rw [if_pos hd] at h
    cases h
  · rw [stepM_not hd] at h
    cases hr : doM qs s (qs.getD s.pc pq0) with
    | inl t => rw [hr] at h; cases h
    | inr c' => rw [hr] at h; obtain rfl := Sum.inr.inj h; have := doM_err hr; omega

set_option maxHeartbeats 8000000 in
set_option maxRecDepth 100000 in
theorem mplay_any (v : Value) (qs : List Pq) (fuel : Int) (w : World) (HS : Hid (Shapes w)) (h1 : 0 < w.heap.size) (HR : Hid (RdQ w v qs)) (hps : ∀ j, j < qs.length → (qs.getD j pq0).ps.length ≤ 100) (hn : qs.length ≤ 1000) (hf1 : -9223372036854775808 ≤ fuel) :
    Calls Tryd.prog 6 #[v, .int .i64 fuel] w fun e w' => PlayP w.heap.size (playR qs fuel) w e w' := by
  obtain ⟨a, cap, hv, _, _⟩ := HR.out.shape
  obtain ⟨n, HN⟩ : ∃ n, Hid (qs.length = n) := ⟨_, (rfl : _ = _)⟩
  rw [HN.out] at hv
  subst hv
  have HPS : Hid (∀ j, j < qs.length → (qs.getD j pq0).ps.length ≤ 100) := hps
  clear hps
  go_enter Tryd.func6, Tryd.ntmps6
  go_wp2_with fail
  refine (mnew_any _ qs _ HS h1 HR HPS.out hn).mono ?_
  rintro e w1 ⟨hb1, hh⟩
  rcases hh with ⟨hc, rfl⟩ | ⟨hc, b, F, rfl, hM, _⟩
  · have HPR : Hid (playR qs fuel = .inr (bkC qs)) := by unfold Hid playR; rw [if_pos hc]
    have HC := hid_of2 hc
    clear hc
    rw [errV_pos HC.out]
    go_wp2_with fail
    go_ret2
    exact ⟨hb1, .inr ⟨bkC qs, HC.out, HPR.out, by rw [errV_pos HC.out]; rfl⟩⟩
  have HPR : Hid (playR qs fuel = playM qs (min fuel 400).toNat ms0) := by unfold Hid playR; rw [if_neg (by simpa using hc)]
  have HBK : Hid (Book qs) := book_of hc
  have HM := hid_of2 hM
  have HW0 : Hid (Way qs ms0) := way0 HBK.out
  clear hc hM
  have hlow := HM.out.low
  by_cases hle : fuel ≤ 400
  · rw [show min fuel 400 = fuel by omega] at HPR
    obtain ⟨N, HLN⟩ : ∃ N : Nat, Hid (fuel.toNat = N) := ⟨_, (rfl : _ = _)⟩
    rw [HLN.out] at HPR
    go_wp2_with fail
    go_loopw [8, 19] (fun _ i wr => ∃ (k : Nat) (st : Ms) (F' : List Nat), k ≤ N ∧ i = .int .i64 k ∧ Hid (Mac wr w.heap.size b F' qs st) ∧ Hid (Way qs st) ∧ Hid (playM qs (N - k) st = playR qs fuel) ∧ Below w.heap.size w wr) (fun _ i _ => N - (intOf i).toNat)
    case atStart => exact ⟨0, ms0, F, by omega, rfl, HM, HW0, by rw [HPR.out]; rfl, hb1⟩
    case round =>
      obtain ⟨k, st, F', hk, rfl, HMS, HWS, HP, hbr⟩ := hrel
      obtain ⟨t, HT⟩ : ∃ t, Hid (decide ((qs.getD st.pc pq0).kind = 16) = t) := ⟨_, (rfl : _ = _)⟩
      by_cases hlt : k < N
      · have hki : (k : Int) < fuel := by have := HLN.out; omega
        go_wp2_with fail
        refine (mdone_any _ b F' qs st _ HMS HWS.out.on t HT).mono ?_
        rintro e w2 ⟨rfl, hb2⟩
        have HM2 : Hid (Mac w2 w.heap.size b F' qs st) := HMS.out.on hb2
        have hbb2 := hbr.trans (hb2.mono hbr.size)
        cases t with
        | true =>
          have HPD : Hid (playR qs fuel = .inl st.frs) := by unfold Hid; rw [← HP.out]; exact play_done qs _ st (of_decide_eq_true HT.out)
          clear hb2
          go_wp2_with fail
          refine (mdone_any _ b F' qs st _ HM2 HWS.out.on true HT).mono ?_
          rintro e w3 ⟨rfl, hb3⟩
          have hbb3 := hbb2.trans (hb3.mono hbb2.size)
          obtain ⟨vo, bm, vr, vb, vk, vf, hm1, hm2, hm3⟩ := HM2.out.on hb3
          obtain ⟨NN, hB⟩ := mac_nine hm1
          have n8 := NN.c8
          obtain ⟨fv, hf1, hf2⟩ := hm2.frs
          obtain ⟨fa, fc, hvf⟩ := own_any hf1.1
          subst hvf
          have HF1 := hid_of2 hf1
          have HF2 := hid_of2 hf2
          clear hm1 hm2 hm3 NN hf1 hf2 hb3
          go_wp2_with fail
          go_ret2
          exact ⟨hbb3, .inl ⟨_, fv, rfl, HF1.out, by rw [HPD.out, HF2.out]⟩⟩
        | false =>
          clear hb2
          go_wp2_with fail
          refine (mstep_any _ b F' qs st _ HM2 HBK HWS).mono ?_
          rintro e w3 ⟨F2, rfl, hm3, hf3⟩
          have hbb3 : Below w.heap.size w w3 := hbb2.trans (hf3.belowB HM2.out.low hbb2.size)
          have hnd : ¬ doneM qs st := of_decide_eq_false HT.out
          have HND := hid_of2 hnd
          obtain ⟨r, HRR⟩ : ∃ r, Hid (stepM qs st = r) := ⟨_, (rfl : _ = _)⟩
          rw [HRR.out] at hm3 ⊢
          clear hnd hf3
          cases r with
          | inr c =>
            have HC0 := hid_of2 (stepM_err HRR.out)
            have HPD : Hid (playR qs fuel = .inr c) := by
              unfold Hid
              rw [← HP.out, show N - k = (N - k - 1) + 1 by omega, playM, if_neg HND.out, HRR.out]
            unfold numM
            rw [errV_pos HC0.out]
            go_wp2_with fail
            go_ret2
            exact ⟨hbb3, .inr ⟨c, HC0.out, HPD.out, by rw [errV_pos HC0.out]; rfl⟩⟩
          | inl s' =>
            have HP2 : Hid (playM qs (N - (k + 1)) s' = playR qs fuel) := by
              unfold Hid
              rw [← HP.out, show N - k = (N - (k + 1)) + 1 by omega, play_step qs _ st s' HND.out HRR.out]
            have HW2 : Hid (Way qs s') := stepM_way HBK.out HWS.out HRR.out
            have HM3 : Hid (Mac w3 w.heap.size b F2 qs s') := hm3
            clear hm3
            unfold numM
            rw [show errV 0 = Value.nilIface from rfl]
            go_wp2_with fail
            go_roundw
            case rel => exact ⟨k + 1, s', F2, by omega, by go_num, HM3, HW2, HP2, hbb3⟩
            case measure => simp [intOf]; omega
      · have hki : ¬ (k : Int) < fuel := by have := HLN.out; omega
        have hkN : N - k = 0 := by omega
        rw [hkN] at HP
        clear hkN
        go_wp2_with fail
        refine (mdone_any _ b F' qs st _ HMS HWS.out.on t HT).mono ?_
        rintro e w3 ⟨rfl, hb3⟩
        have hbb3 := hbr.trans (hb3.mono hbr.size)
        cases t with
        | true =>
          have HPD : Hid (playR qs fuel = .inl st.frs) := by unfold Hid; rw [← HP.out]; exact play_done qs _ st (of_decide_eq_true HT.out)
          obtain ⟨vo, bm, vr, vb, vk, vf, hm1, hm2, hm3⟩ := HMS.out.on hb3
          obtain ⟨NN, hB⟩ := mac_nine hm1
          have n8 := NN.c8
          obtain ⟨fv, hf1, hf2⟩ := hm2.frs
          obtain ⟨fa, fc, hvf⟩ := own_any hf1.1
          subst hvf
          have HF1 := hid_of2 hf1
          have HF2 := hid_of2 hf2
          clear hm1 hm2 hm3 NN hf1 hf2 hb3
          go_wp2_with fail
          go_ret2
          exact ⟨hbb3, .inl ⟨_, fv, rfl, HF1.out, by rw [HPD.out, HF2.out]⟩⟩
        | false =>
          have HPD : Hid (playR qs fuel = .inr 8) := by
            unfold Hid
            rw [← HP.out, playM, if_neg (show ¬ doneM qs st from of_decide_eq_false HT.out)]
          clear hb3
          go_wp2_with fail
          go_ret2
          exact ⟨hbb3, .inr ⟨8, by omega, HPD.out, rfl⟩⟩
  · rw [show min fuel 400 = 400 by omega] at HPR
    obtain ⟨N, HLN⟩ : ∃ N : Nat, Hid ((400 : Int).toNat = N) := ⟨_, (rfl : _ = _)⟩
    rw [HLN.out] at HPR
    go_wp2_with fail
    go_loopw [8, 19] (fun _ i wr => ∃ (k : Nat) (st : Ms) (F' : List Nat), k ≤ N ∧ i = .int .i64 k ∧ Hid (Mac wr w.heap.size b F' qs st) ∧ Hid (Way qs st) ∧ Hid (playM qs (N - k) st = playR qs fuel) ∧ Below w.heap.size w wr) (fun _ i _ => N - (intOf i).toNat)
    case atStart => exact ⟨0, ms0, F, by omega, rfl, HM, HW0, by rw [HPR.out]; rfl, hb1⟩
    case round =>
      obtain ⟨k, st, F', hk, rfl, HMS, HWS, HP, hbr⟩ := hrel
      obtain ⟨t, HT⟩ : ∃ t, Hid (decide ((qs.getD st.pc pq0).kind = 16) = t) := ⟨_, (rfl : _ = _)⟩
      by_cases hlt : k < N
      · have hki : (k : Int) < (400 : Int) := by have := HLN.out; omega
        go_wp2_with fail
        refine (mdone_any _ b F' qs st _ HMS HWS.out.on t HT).mono ?_
        rintro e w2 ⟨rfl, hb2⟩
        have HM2 : Hid (Mac w2 w.heap.size b F' qs st) := HMS.out.on hb2
        have hbb2 := hbr.trans (hb2.mono hbr.size)
        cases t with
        | true =>
          have HPD : Hid (playR qs fuel = .inl st.frs) := by unfold Hid; rw [← HP.out]; exact play_done qs _ st (of_decide_eq_true HT.out)
          clear hb2
          go_wp2_with fail
          refine (mdone_any _ b F' qs st _ HM2 HWS.out.on true HT).mono ?_
          rintro e w3 ⟨rfl, hb3⟩
          have hbb3 := hbb2.trans (hb3.mono hbb2.size)
          obtain ⟨vo, bm, vr, vb, vk, vf, hm1, hm2, hm3⟩ := HM2.out.on hb3
          obtain ⟨NN, hB⟩ := mac_nine hm1
          have n8 := NN.c8
          obtain ⟨fv, hf1, hf2⟩ := hm2.frs
          obtain ⟨fa, fc, hvf⟩ := own_any hf1.1
          subst hvf
          have HF1 := hid_of2 hf1
          have HF2 := hid_of2 hf2
          clear hm1 hm2 hm3 NN hf1 hf2 hb3
          go_wp2_with fail
          go_ret2
          exact ⟨hbb3, .inl ⟨_, fv, rfl, HF1.out, by rw [HPD.out, HF2.out]⟩⟩
        | false =>
          clear hb2
          go_wp2_with fail
          refine (mstep_any _ b F' qs st _ HM2 HBK HWS).mono ?_
          rintro e w3 ⟨F2, rfl, hm3, hf3⟩
          have hbb3 : Below w.heap.size w w3 := hbb2.trans (hf3.belowB HM2.out.low hbb2.size)
          have hnd : ¬ doneM qs st := of_decide_eq_false HT.out
          have HND := hid_of2 hnd
          obtain ⟨r, HRR⟩ : ∃ r, Hid (stepM qs st = r) := ⟨_, (rfl : _ = _)⟩
          rw [HRR.out] at hm3 ⊢
          clear hnd hf3
          cases r with
          | inr c =>
            have HC0 := hid_of2 (stepM_err HRR.out)
            have HPD : Hid (playR qs fuel = .inr c) := by
              unfold Hid
              rw [← HP.out, show N - k = (N - k - 1) + 1 by omega, playM, if_neg HND.out, HRR.out]
            unfold numM
            rw [errV_pos HC0.out]
            go_wp2_with fail
            go_ret2
            exact ⟨hbb3, .inr ⟨c, HC0.out, HPD.out, by rw [errV_pos HC0.out]; rfl⟩⟩
          | inl s' =>
            have HP2 : Hid (playM qs (N - (k + 1)) s' = playR qs fuel) := by
              unfold Hid
              rw [← HP.out, show N - k = (N - (k + 1)) + 1 by omega, play_step qs _ st s' HND.out HRR.out]
            have HW2 : Hid (Way qs s') := stepM_way HBK.out HWS.out HRR.out
            have HM3 : Hid (Mac w3 w.heap.size b F2 qs s') := hm3
            clear hm3
            unfold numM
            rw [show errV 0 = Value.nilIface from rfl]
            go_wp2_with fail
            go_roundw
            case rel => exact ⟨k + 1, s', F2, by omega, by go_num, HM3, HW2, HP2, hbb3⟩
            case measure => simp [intOf]; omega
      · have hki : ¬ (k : Int) < (400 : Int) := by have := HLN.out; omega
        have hkN : N - k = 0 := by omega
        rw [hkN] at HP
        clear hkN
        go_wp2_with fail
        refine (mdone_any _ b F' qs st _ HMS HWS.out.on t HT).mono ?_
        rintro e w3 ⟨rfl, hb3⟩
        have hbb3 := hbr.trans (hb3.mono hbr.size)
        cases t with
        | true =>
          have HPD : Hid (playR qs fuel = .inl st.frs) := by unfold Hid; rw [← HP.out]; exact play_done qs _ st (of_decide_eq_true HT.out)
          obtain ⟨vo, bm, vr, vb, vk, vf, hm1, hm2, hm3⟩ := HMS.out.on hb3
          obtain ⟨NN, hB⟩ := mac_nine hm1
          have n8 := NN.c8
          obtain ⟨fv, hf1, hf2⟩ := hm2.frs
          obtain ⟨fa, fc, hvf⟩ := own_any hf1.1
          subst hvf
          have HF1 := hid_of2 hf1
          have HF2 := hid_of2 hf2
          clear hm1 hm2 hm3 NN hf1 hf2 hb3
          go_wp2_with fail
          go_ret2
          exact ⟨hbb3, .inl ⟨_, fv, rfl, HF1.out, by rw [HPD.out, HF2.out]⟩⟩
        | false =>
          have HPD : Hid (playR qs fuel = .inr 8) := by
            unfold Hid
            rw [← HP.out, playM, if_neg (show ¬ doneM qs st from of_decide_eq_false HT.out)]
          clear hb3
          go_wp2_with fail
          go_ret2
          exact ⟨hbb3, .inr ⟨8, by omega, HPD.out, rfl⟩⟩
end Go.Proofs.YtjmkfcgnadpbaaaDoor
/- Walks of the laws' own functions: LightOps, may, plain, works. -/
namespace Go.Proofs.YtjmkfcgnadpbaaaDoor
open Go.RowKit Go.Maps

/-- ops that are few, and not too much -/
structure LightQs (qs : List Pq) : Prop where
  few : qs.length ≤ 70
  pix : ∀ j, j < qs.length → (qs.getD j pq0).ps.length ≤ 80

set_option maxHeartbeats 8000000 in
set_option maxRecDepth 100000 in
theorem lightOps_any (v : Value) (qs : List Pq) (w : World) (HR : Hid (RdQ w v qs)) :
    Calls Tryd.prog 5 #[v, .int .i64 70] w fun e w' => ∃ b, e = .returned (.bool b) ∧ (b = true → LightQs qs) ∧ Below w.heap.size w w' := by
  obtain ⟨a, cap, hv, hl, hcap⟩ := HR.out.shape
  obtain ⟨n, HN⟩ : ∃ n, Hid (qs.length = n) := ⟨_, (rfl : _ = _)⟩
  rw [HN.out] at hv hl
  subst hv
  by_cases h70 : 70 < n
  · have h70i : (70 : Int) < (n : Int) := by omega
    go_enter Tryd.func5, Tryd.ntmps5
    go_wp2_with fail
    go_ret
    exact ⟨false, rfl, (by intro h; cases h), Below.refl _ _⟩
  have h70i : ¬ (70 : Int) < (n : Int) := by omega
  have hbz : Below w.heap.size w w := Below.refl _ _
  go_enter Tryd.func5, Tryd.ntmps5
  go_wp2_with fail
  go_loopw [5] (fun i wr => ∃ k : Nat, k ≤ n ∧ i = .int .i64 k ∧ Hid (∀ j, j < k → (qs.getD j pq0).ps.length ≤ 80) ∧ Below w.heap.size w wr) (fun i _ => n - (intOf i).toNat)
  case atStart => exact ⟨0, by omega, rfl, (by intro j hj; omega), hbz⟩
  case round =>
    obtain ⟨k, hk, rfl, HP, hbr⟩ := hrel
    by_cases hlt : k < n
    · obtain ⟨q, HX⟩ : ∃ q, Hid (qs.getD k pq0 = q) := ⟨_, (rfl : _ = _)⟩
      obtain ⟨g, o, ua, mu, uc, rfl, hg, OC, HU, HMU⟩ := (HR.out.on hbr).at hlt HX
      obtain ⟨c0, c1, c2, c3, c4, c5, c6, c7, c8⟩ := OC
      have hki0 : (0 : Int) ≤ (k : Int) := by omega
      have hki1 : (k : Int) < (n : Int) := by omega
      have hmu : mu ≤ 9223372036854775807 := by obtain ⟨_, _, h, h2, h3, _⟩ := HU.out; simp only [Value.slice.injEq] at h; omega
      clear HU
      by_cases h80 : mu ≤ 80
      · have HP2 : Hid (∀ j, j < k + 1 → (qs.getD j pq0).ps.length ≤ 80) := by
          intro j hj
          rcases Nat.eq_or_lt_of_le (Nat.le_of_lt_succ hj) with rfl | hj
          · rw [HX.out, HMU.out]; exact h80
          · exact HP.out j hj
        have HB80 : Hid (decide (mu ≤ 80) = true) := by unfold Hid; simp [h80]
        go_wp2_with fail
        refine (light_any q.pw q.ph ua mu uc _ hmu true HB80).mono ?_
        rintro e w2 ⟨rfl, hb2⟩
        have hbb2 := hbr.trans (hb2.mono hbr.size)
        clear hb2
        go_wp2_with fail
        go_roundw
        case rel => exact ⟨k + 1, by omega, by go_num, HP2, hbb2⟩
        case measure => simp [intOf]; omega
      · have HB80 : Hid (decide (mu ≤ 80) = false) := by unfold Hid; simp [h80]
        go_wp2_with fail
        refine (light_any q.pw q.ph ua mu uc _ hmu false HB80).mono ?_
        rintro e w2 ⟨rfl, hb2⟩
        have hbb2 := hbr.trans (hb2.mono hbr.size)
        go_wp2_with fail
        go_ret
        exact ⟨false, rfl, (by intro h; cases h), hbb2⟩
    · obtain rfl : k = n := by omega
      have HL : Hid (LightQs qs) := ⟨by rw [HN.out]; omega, fun j hj => HP.out j (by rw [HN.out] at hj; exact hj)⟩
      go_wp2_with fail
      go_ret
      exact ⟨true, rfl, fun _ => HL.out, hbr⟩

/-- a book that the laws speak of -/
structure MayQ (qs : List Pq) : Prop where
  light : LightQs qs
  ok : bkC qs = 0
theorem MayQ.ps {qs : List Pq} (h : MayQ qs) : ∀ j, j < qs.length → (qs.getD j pq0).ps.length ≤ 100 := fun j hj => by have := h.light.pix j hj; omega
theorem MayQ.len {qs : List Pq} (h : MayQ qs) : qs.length ≤ 1000 := by have := h.light.few; omega

end Go.Proofs.YtjmkfcgnadpbaaaDoor
/- Walk: SameObject of two that are the same. -/
namespace Go.Proofs.YtjmkfcgnadpbaaaDoor
open Go.RowKit

theorem eq_rect (X : World) (a b c d : Int) : (binOp .eql 78 (.agg #[.int .i64 a, .int .i64 b, .int .i64 c, .int .i64 d]) (.agg #[.int .i64 a, .int .i64 b, .int .i64 c, .int .i64 d])).run Tryd.prog X = .ok (.bool true) X := by
  have h : (Op.equalIn 10000 78 (.agg #[.int .i64 a, .int .i64 b, .int .i64 c, .int .i64 d]) (.agg #[.int .i64 a, .int .i64 b, .int .i64 c, .int .i64 d])).run Tryd.prog X = .ok true X := by
    have u3 := Tryd.underlying3
    rw [run_equalIn_agg X 9999 78 _ _ (by kernel_rfl) (by kernel_rfl)]
    simp only [Program.fieldsOf, Tryd.underlying78]
    go_simp
  rw [run_eql_struct, h]
  rfl

set_option maxHeartbeats 4000000 in
set_option maxRecDepth 100000 in
theorem sameOb_any (x : Po) (u0 u1 : Value) (w : World) (hps : x.ps.length ≤ 1000) (H0 : Hid (RdP w u0 x.ps)) (H1 : Hid (RdP w u1 x.ps)) :
    Calls Tryd.prog 29 #[poV x u0, poV x u1] w fun e w' => e = .returned (.bool true) ∧ Below w.heap.size w w' := by
  obtain ⟨a0, c0, hv0, _, _, hh0⟩ := H0.out
  obtain ⟨a1, c1, hv1, _, _, hh1⟩ := H1.out
  obtain ⟨n, HN⟩ : ∃ n, Hid (x.ps.length = n) := ⟨_, (rfl : _ = _)⟩
  rw [HN.out] at hv0 hv1
  clear hh0 hh1
  subst hv0 hv1
  unfold poV objV
  have e1 : (x.id == x.id) = true := by simp
  have e2 : (x.x == x.x) = true := by simp
  have e3 : (x.y == x.y) = true := by simp
  have e4 : (x.sh == x.sh) = true := by simp
  have e5 := fun X => eq_rect X x.cx x.cy x.cw x.ch
  obtain ⟨X0, HX0⟩ : ∃ X0, Hid ((w.alloc (.cells #[.int .i64 x.id, .int .i64 x.x, .int .i64 x.y, .int .i64 x.pw, .int .i64 x.ph, .slice a0 n c0, .int .i64 x.cx, .int .i64 x.cy, .int .i64 x.cw, .int .i64 x.ch, .bool x.sh] 80)).alloc (.cells #[.int .i64 x.id, .int .i64 x.x, .int .i64 x.y, .int .i64 x.pw, .int .i64 x.ph, .slice a1 n c1, .int .i64 x.cx, .int .i64 x.cy, .int .i64 x.cw, .int .i64 x.ch, .bool x.sh] 80) = X0) := ⟨_, (rfl : _ = _)⟩
  have hbz : Below w.heap.size w X0 := by rw [← HX0.out]; exact ((Below.refl _ _).alloc (Nat.le_refl _) _).alloc (by simp) _
  have E0 : Eleven X0 w.heap.size (.int .i64 x.id) (.int .i64 x.x) (.int .i64 x.y) (.int .i64 x.pw) (.int .i64 x.ph) (.slice a0 n c0) (.int .i64 x.cx) (.int .i64 x.cy) (.int .i64 x.cw) (.int .i64 x.ch) (.bool x.sh) := by rw [← HX0.out]; exact (eleven_start w _ _ _ _ _ _ _ _ _ _ _ 80 w.heap.size rfl).alloc _
  have E1 : Eleven X0 (w.heap.size + 1) (.int .i64 x.id) (.int .i64 x.x) (.int .i64 x.y) (.int .i64 x.pw) (.int .i64 x.ph) (.slice a1 n c1) (.int .i64 x.cx) (.int .i64 x.cy) (.int .i64 x.cw) (.int .i64 x.ch) (.bool x.sh) := by rw [← HX0.out]; exact eleven_start _ _ _ _ _ _ _ _ _ _ _ _ 80 (w.heap.size + 1) (by simp)
  have HR0 : Hid (RdP X0 (.slice a0 n c0) x.ps) := H0.out.on hbz
  have HR1 : Hid (RdP X0 (.slice a1 n c1) x.ps) := H1.out.on hbz
  go_enter Tryd.func29, Tryd.ntmps29
  go_wp2_with fail
  rw [HX0.out]
  refine (samePic_any x.pw x.ph _ _ x.ps _ hps HR0 HR1).mono ?_
  rintro e w1 ⟨rfl, hb1⟩
  have hbb1 := hbz.trans (hb1.mono hbz.size)
  obtain ⟨s0, s1, s2, s3, s4, s5, s6, s7, s8, s9, s10, sf0, sf1, sf2, sf3, sf4, sf5, sf6, sf7, sf8, sf9, sf10, slt⟩ := E0.on hb1
  obtain ⟨t0, t1, t2, t3, t4, t5, t6, t7, t8, t9, t10, tf0, tf1, tf2, tf3, tf4, tf5, tf6, tf7, tf8, tf9, tf10, tlt⟩ := E1.on hb1
  clear hb1 E0 E1 HR0 HR1 HX0
  go_wp2_with fail
  go_ret
  exact ⟨rfl, hbb1⟩
end Go.Proofs.YtjmkfcgnadpbaaaDoor
/- Walk of the laws' SameObjects, of lists that are the same. -/
namespace Go.Proofs.YtjmkfcgnadpbaaaDoor
open Go.RowKit

set_option maxHeartbeats 8000000 in
set_option maxRecDepth 100000 in
theorem sameObs_any (v0 v1 : Value) (os : List Po) (w : World) (hos : os.length ≤ 1000) (hps : ∀ o ∈ os, o.ps.length ≤ 1000) (R0 : Hid (RdO w v0 os)) (R1 : Hid (RdO w v1 os)) :
    Calls Tryd.prog 16 #[v0, v1] w fun e w' => e = .returned (.bool true) ∧ Below w.heap.size w w' := by
  obtain ⟨a0, cap0, hv0, hl0, hm0⟩ := R0.out.shape
  obtain ⟨a1, cap1, hv1, hl1, hm1⟩ := R1.out.shape
  obtain ⟨n, HN⟩ : ∃ n, Hid (os.length = n) := ⟨_, (rfl : _ = _)⟩
  rw [HN.out] at hv0 hl0 hv1 hl1 hos
  subst hv0 hv1
  have HPS : Hid (∀ o ∈ os, o.ps.length ≤ 1000) := hps
  clear hps
  have hbz : Below w.heap.size w w := Below.refl _ _
  have hnn : ((n : Int) != (n : Int)) = false := by simp
  go_enter Tryd.func16, Tryd.ntmps16
  go_wp2_with fail
  go_loopw [5, 6] (fun i _ wr => ∃ k : Nat, k ≤ n ∧ i = .int .i64 k ∧ Below w.heap.size w wr) (fun i _ _ => n - (intOf i).toNat)
  case atStart => exact ⟨0, by omega, rfl, hbz⟩
  case round =>
    obtain ⟨k, hk, rfl, hbr⟩ := hrel
    by_cases hlt : k < n
    · have hlt' : k < os.length := by rw [HN.out]; exact hlt
      obtain ⟨x, HX⟩ : ∃ x, Hid (os.getD k po0 = x) := ⟨_, (rfl : _ = _)⟩
      have hxp : x.ps.length ≤ 1000 := by
        rw [← HX.out]
        refine HPS.out _ ?_
        rw [List.getD_eq_getElem?_getD, List.getElem?_eq_getElem hlt']
        exact List.getElem_mem hlt'
      obtain ⟨g, o, ua, m, uc, rfl, hg, ⟨c0, c1, c2, c3, c4, c5, c6, c7, c8, c9, c10⟩, HU0, HM0⟩ := (R0.out.on hbr).at hlt HX
      obtain ⟨g', o', va, m', vc, rfl, hg', ⟨d0, d1, d2, d3, d4, d5, d6, d7, d8, d9, d10⟩, HU1, HM1⟩ := (R1.out.on hbr).at hlt HX
      have hmm : m = m' := by rw [← HM1.out, ← HM0.out]
      subst hmm
      have hki0 : (0 : Int) ≤ (k : Int) := by omega
      have hki1 : (k : Int) < (n : Int) := by omega
      have HU0d : Hid (RdP wr.drew (.slice ua m uc) x.ps) := HU0.out.on (Below.refl _ _).drew
      have HU1d : Hid (RdP wr.drew (.slice va m vc) x.ps) := HU1.out.on (Below.refl _ _).drew
      have hso := sameOb_any x (.slice ua m uc) (.slice va m vc) wr.drew hxp HU0d HU1d
      unfold poV objV at hso
      have HSO := hid_of2 hso
      clear hso hlt' HX HU0 HU1
      go_wp2_with fail
      go_still_tail 8, (by kernel_rfl)
      go_wp2_with fail
      refine HSO.out.mono ?_
      rintro e w2 ⟨rfl, hb2⟩
      have hbb2 : Below w.heap.size w w2 := (hbr.trans ((Below.refl wr.heap.size wr).drew.mono hbr.size)).trans (Below.mono (show Below wr.heap.size wr.drew w2 from ⟨hb2.os, hb2.tape, hb2.output, hb2.size, hb2.block⟩) hbr.size)
      clear hb2 HSO HU0d HU1d c0 c1 c2 c3 c4 c5 c6 c7 c8 c9 c10 d0 d1 d2 d3 d4 d5 d6 d7 d8 d9 d10
      go_wp2_with fail
      go_roundw
      case rel => exact ⟨k + 1, by omega, by go_num, hbb2⟩
      case measure => simp [intOf]; omega
    · obtain rfl : k = n := by omega
      go_wp2_with fail
      go_ret
      exact ⟨rfl, hbr⟩
end Go.Proofs.YtjmkfcgnadpbaaaDoor
/- Walks: reel.Length, reel.At and the document's. -/
namespace Go.Proofs.YtjmkfcgnadpbaaaDoor
open Go.RowKit

def lenF : List Pf → Int
  | [] => 0
  | f :: r => f.d + lenF r

structure GoodF (fs : List Pf) : Prop where
  low : ∀ f ∈ fs, 0 ≤ f.d
  up : lenF fs ≤ 1000000
  many : fs.length ≤ 1000
  pix : ∀ f ∈ fs, f.ps.length ≤ 80

theorem lenF_app : ∀ a b : List Pf, lenF (a ++ b) = lenF a + lenF b
  | [], b => by simp [lenF]
  | f :: r, b => by simp only [List.cons_append, lenF, lenF_app r b]; omega
theorem lenF_nonneg : ∀ a : List Pf, (∀ f ∈ a, 0 ≤ f.d) → 0 ≤ lenF a
  | [], _ => by simp [lenF]
  | f :: r, h => by
    have h1 := h f (by simp)
    have h2 := lenF_nonneg r (fun g hg => h g (by simp [hg]))
    simp only [lenF]
    omega
theorem getD_mem {fs : List Pf} {k : Nat} (h : k < fs.length) : fs.getD k pf0 ∈ fs := by
  rw [List.getD_eq_getElem?_getD, List.getElem?_eq_getElem h]
  simp
theorem take_next {fs : List Pf} {k : Nat} (h : k < fs.length) : fs.take (k + 1) = fs.take k ++ [fs.getD k pf0] := by
  rw [List.take_succ_eq_append_getElem h, List.getD_eq_getElem?_getD, List.getElem?_eq_getElem h]
  simp
theorem lenF_take {fs : List Pf} (hg : GoodF fs) (k : Nat) : 0 ≤ lenF (fs.take k) ∧ lenF (fs.take k) ≤ 1000000 := by
  have h1 := lenF_nonneg (fs.take k) (fun f hf => hg.low f (List.mem_of_mem_take hf))
  have h2 := lenF_nonneg (fs.drop k) (fun f hf => hg.low f (List.mem_of_mem_drop hf))
  have h3 := lenF_app (fs.take k) (fs.drop k)
  rw [List.take_append_drop] at h3
  have := hg.up
  omega

def atF : List Pf → Int → Nat → Int
  | [], _, _ => -1
  | f :: r, m, i => if m < f.d then (i : Int) else atF r (m - f.d) (i + 1)
def atC (fs : List Pf) (m : Int) : Int := if m < 0 then -1 else atF fs m 0

theorem drop_fr (l : List Pf) (k : Nat) (h : k < l.length) : l.drop k = l.getD k pf0 :: l.drop (k + 1) := by
  rw [List.drop_eq_getElem_cons h, List.getD_eq_getElem?_getD, List.getElem?_eq_getElem h]
  rfl

end Go.Proofs.YtjmkfcgnadpbaaaDoor
/- Walks: flickerbookref.SamePicture, slices.Equal of pixels and reel.Same, of any two pictures. -/
namespace Go.Proofs.YtjmkfcgnadpbaaaDoor
open Go.RowKit

theorem neq_pix (X : World) (a b c d : Int) : (binOp .neq 42 (.agg #[.int .i64 a, .int .i64 b]) (.agg #[.int .i64 c, .int .i64 d])).run Tryd.prog X = .ok (.bool (!(decide (a = c) && decide (b = d)))) X := by
  have h : (Op.equalIn 10000 42 (.agg #[.int .i64 a, .int .i64 b]) (.agg #[.int .i64 c, .int .i64 d])).run Tryd.prog X = .ok (decide (a = c) && decide (b = d)) X := by
    have u3 := Tryd.underlying3
    rw [run_equalIn_agg X 9999 42 _ _ (by kernel_rfl) (by kernel_rfl)]
    simp only [Program.fieldsOf, Tryd.underlying42]
    by_cases h1 : a = c
    · by_cases h2 : b = d
      · subst h1 h2
        go_simp
      · subst h1
        have e2 : (b == d) = false := by simp [h2]
        go_simp
        try simp [h2]
    · have e1 : (a == c) = false := by simp [h1]
      go_simp
      try simp [h1]
  rw [run_neq_struct, h]
  rfl

theorem take_more {α : Type} {a b : List α} {d : α} {k : Nat} (ha : k < a.length) (hb : k < b.length) (h : a.take k = b.take k) (hd : a.getD k d = b.getD k d) : a.take (k + 1) = b.take (k + 1) := by
  rw [List.take_succ_eq_append_getElem ha, List.take_succ_eq_append_getElem hb, h]
  simp only [List.getD_eq_getElem?_getD, List.getElem?_eq_getElem ha, List.getElem?_eq_getElem hb, Option.getD_some] at hd
  rw [hd]

@[reducible] def sameC (W0 H0 : Int) (ps : List (Int × Int)) (W1 H1 : Int) (qs : List (Int × Int)) : Bool := decide (W0 = W1) && (decide (H0 = H1) && decide (ps = qs))

theorem same_no {W0 H0 W1 H1 : Int} {ps qs : List (Int × Int)} {b : Bool} (HB : Hid (sameC W0 H0 ps W1 H1 qs = b)) (h : ¬(W0 = W1 ∧ H0 = H1 ∧ ps = qs)) : b = false := by
  rw [← HB.out]
  simp only [sameC]
  by_cases h1 : W0 = W1
  · by_cases h2 : H0 = H1
    · simp only [Bool.and_eq_false_iff, decide_eq_false_iff_not]
      exact .inr (.inr fun h3 => h ⟨h1, h2, h3⟩)
    · simp [h2]
  · simp [h1]
theorem same_yes {W0 H0 W1 H1 : Int} {ps qs : List (Int × Int)} {b : Bool} (HB : Hid (sameC W0 H0 ps W1 H1 qs = b)) (h1 : W0 = W1) (h2 : H0 = H1) (h3 : ps = qs) : b = true := by
  rw [← HB.out]
  simp [sameC, h1, h2, h3]

set_option maxHeartbeats 2000000 in
set_option maxRecDepth 100000 in
theorem samePicG_any (W0 H0 W1 H1 : Int) (v0 v1 : Value) (ps qs : List (Int × Int)) (w : World) (hps : ps.length ≤ 1000) (_hqs : qs.length ≤ 1000) (R0 : Hid (RdP w v0 ps)) (R1 : Hid (RdP w v1 qs)) (b : Bool) (HB : Hid (sameC W0 H0 ps W1 H1 qs = b)) :
    Calls Tryd.prog 20 #[.agg #[.int .i64 W0, .int .i64 H0, v0], .agg #[.int .i64 W1, .int .i64 H1, v1]] w fun e w' => e = .returned (.bool b) ∧ Below w.heap.size w w' := by
  obtain ⟨a0, c0, hv0, hl0, hm0, hh0⟩ := R0.out
  obtain ⟨a1, c1, hv1, hl1, hm1, hh1⟩ := R1.out
  obtain ⟨n, HN⟩ : ∃ n, Hid (ps.length = n) := ⟨_, (rfl : _ = _)⟩
  obtain ⟨m, HM⟩ : ∃ m, Hid (qs.length = m) := ⟨_, (rfl : _ = _)⟩
  rw [HN.out] at hv0 hl0 hps
  rw [HM.out] at hv1 hl1
  clear hh0 hh1
  subst hv0 hv1
  have HT0 := (three_start w (.int .i64 W0) (.int .i64 H0) (.slice a0 n c0) 49).alloc (.cells #[.int .i64 W1, .int .i64 H1, .slice a1 m c1] 49)
  have HT1 := three_start (w.alloc (.cells #[.int .i64 W0, .int .i64 H0, .slice a0 n c0] 49)) (.int .i64 W1) (.int .i64 H1) (.slice a1 m c1) 49
  obtain ⟨x0, x1, x2, _, _, _, _⟩ := HT0
  obtain ⟨y0, y1, y2, _, _, _, _⟩ := HT1
  have es : (w.alloc (.cells #[.int .i64 W0, .int .i64 H0, .slice a0 n c0] 49)).heap.size = w.heap.size + 1 := by simp
  rw [es] at y0 y1 y2
  clear es
  obtain ⟨wz, HWZ⟩ : ∃ wz, Hid ((w.alloc (.cells #[.int .i64 W0, .int .i64 H0, .slice a0 n c0] 49)).alloc (.cells #[.int .i64 W1, .int .i64 H1, .slice a1 m c1] 49) = wz) := ⟨_, (rfl : _ = _)⟩
  have hbz : Below w.heap.size w wz := by rw [← HWZ.out]; exact ((Below.refl _ _).alloc (Nat.le_refl _) _).alloc (by simp) _
  by_cases hW : W0 = W1
  · by_cases hH : H0 = H1
    · have eW : (W0 != W1) = false := by simp [hW]
      have eH : (H0 != H1) = false := by simp [hH]
      have HWH : Hid (W0 = W1 ∧ H0 = H1) := ⟨hW, hH⟩
      clear hW hH
      by_cases hnm : n = m
      · have hnn : ((n : Int) != (m : Int)) = false := by simp [hnm]
        have HNM : Hid (n = m) := hnm
        clear hnm
        go_enter Tryd.func20, Tryd.ntmps20
        rw [HWZ.out] at x0 x1 x2 y0 y1 y2
        go_wp2_with fail
        rw [HWZ.out]
        go_loopw [5] (fun i wr => ∃ k q : Nat, k ≤ n ∧ i = .int .i64 k ∧ wr = wz.drewN q ∧ Hid (ps.take k = qs.take k)) (fun i _ => n - (intOf i).toNat)
        case atStart => exact ⟨0, 0, by omega, rfl, rfl, (rfl : _ = _)⟩
        case round =>
          obtain ⟨k, q, hk, rfl, rfl, HTK⟩ := hrel
          by_cases hlt : k < n
          · have hne : ps ≠ [] := by intro e; have h := HN.out; rw [e] at h; simp at h; omega
            have hne1 : qs ≠ [] := by intro e; have h := HM.out; rw [e] at h; simp at h; have := HNM.out; omega
            obtain ⟨_, _, hv0, _, _, hh0⟩ := R0.out
            obtain ⟨_, _, hv1, _, _, hh1⟩ := R1.out
            obtain ⟨g0, o0, ha0, hg0, hc0⟩ := hh0 hne
            obtain ⟨g1, o1, ha1, hg1, hc1⟩ := hh1 hne1
            simp only [Value.slice.injEq] at hv0 hv1
            have e0 : a0 = some ⟨g0, o0, none⟩ := hv0.1.trans ha0
            have e1 : a1 = some ⟨g1, o1, none⟩ := hv1.1.trans ha1
            subst e0 e1
            have hkm : k < m := by have := HNM.out; omega
            obtain ⟨p, HP⟩ : ∃ p, Hid (ps.getD k (0, 0) = p) := ⟨_, (rfl : _ = _)⟩
            obtain ⟨r, HQ⟩ : ∃ p, Hid (qs.getD k (0, 0) = p) := ⟨_, (rfl : _ = _)⟩
            have d0 := hc0 k (by rw [HN.out]; exact hlt)
            have d1 := hc1 k (by rw [HM.out]; exact hkm)
            rw [HP.out] at d0
            rw [HQ.out] at d1
            obtain ⟨pv, pa⟩ := p
            obtain ⟨rv, ra⟩ := r
            have f0 : wz.cell? ⟨g0, o0 + k * 2, none⟩ = some (.int .i64 pv) := by rw [hbz.cell (p := ⟨g0, o0 + k * 2, none⟩) hg0]; exact d0.1
            have f1 : wz.cell? ⟨g0, o0 + k * 2 + 1, none⟩ = some (.int .i64 pa) := by rw [hbz.cell (p := ⟨g0, o0 + k * 2 + 1, none⟩) hg0]; exact d0.2
            have f2 : wz.cell? ⟨g1, o1 + k * 2, none⟩ = some (.int .i64 rv) := by rw [hbz.cell (p := ⟨g1, o1 + k * 2, none⟩) hg1]; exact d1.1
            have f3 : wz.cell? ⟨g1, o1 + k * 2 + 1, none⟩ = some (.int .i64 ra) := by rw [hbz.cell (p := ⟨g1, o1 + k * 2 + 1, none⟩) hg1]; exact d1.2
            have heq := fun X => neq_pix X pv pa rv ra
            clear d0 d1 hc0 hc1 hh0 hh1 hv0 hv1 ha0 ha1
            by_cases hd : pv = rv ∧ pa = ra
            · have HT2 : Hid (ps.take (k + 1) = qs.take (k + 1)) := take_more (d := (0, 0)) (by rw [HN.out]; exact hlt) (by rw [HM.out]; exact hkm) HTK.out (by rw [HP.out, HQ.out, hd.1, hd.2])
              obtain ⟨hd1, hd2⟩ := hd
              subst hd1 hd2
              simp only [decide_true, Bool.and_true, Bool.not_true] at heq
              go_wp2_with fail
              go_quiet (fail)
              go_wp2_with fail
              go_roundw
              case rel => exact ⟨k + 1, q + nq, by omega, by go_num, rfl, HT2⟩
              case measure => simp [intOf]; omega
            · have hdb : (!(decide (pv = rv) && decide (pa = ra))) = true := by
                simp only [Bool.not_eq_true', Bool.and_eq_false_iff, decide_eq_false_iff_not]
                by_cases h1 : pv = rv
                · right
                  exact fun h2 => hd ⟨h1, h2⟩
                · exact .inl h1
              rw [hdb] at heq
              have : b = false := by
                refine same_no HB fun h => ?_
                have h1 := HP.out
                rw [h.2.2, HQ.out, Prod.mk.injEq] at h1
                exact hd ⟨h1.1.symm, h1.2.symm⟩
              subst this
              clear hd hdb
              go_wp2_with fail
              go_quiet (fail)
              go_wp2_with fail
              go_ret
              exact ⟨rfl, below_drewN (below_drewN hbz q) nq⟩
          · have : b = true := by
              refine same_yes HB HWH.out.1 HWH.out.2 ?_
              have h := HTK.out
              rwa [List.take_of_length_le (by rw [HN.out]; omega), List.take_of_length_le (by rw [HM.out]; have := HNM.out; omega)] at h
            subst this
            go_wp2_with fail
            go_ret
            exact ⟨rfl, below_drewN hbz q⟩
      · have hnn : ((n : Int) != (m : Int)) = true := by simp; omega
        have : b = false := by
          refine same_no HB fun h => ?_
          have h1 := HN.out
          rw [h.2.2, HM.out] at h1
          exact hnm h1.symm
        subst this
        clear hnm
        go_enter Tryd.func20, Tryd.ntmps20
        rw [HWZ.out] at x0 x1 x2 y0 y1 y2
        go_wp2_with fail
        go_ret
        exact ⟨rfl, by rw [HWZ.out]; exact hbz⟩
    · have eW : (W0 != W1) = false := by simp [hW]
      have eH : (H0 != H1) = true := by simp [hH]
      have hb := same_no HB (fun h => hH h.2.1)
      subst hb
      clear hW hH
      go_enter Tryd.func20, Tryd.ntmps20
      rw [HWZ.out] at x0 x1 x2 y0 y1 y2
      go_wp2_with fail
      go_ret
      exact ⟨rfl, by rw [HWZ.out]; exact hbz⟩
  · have eW : (W0 != W1) = true := by simp [hW]
    have hb := same_no HB (fun h => hW h.1)
    subst hb
    clear hW
    go_enter Tryd.func20, Tryd.ntmps20
    rw [HWZ.out] at x0 x1 x2 y0 y1 y2
    go_wp2_with fail
    go_ret
    exact ⟨rfl, by rw [HWZ.out]; exact hbz⟩
end Go.Proofs.YtjmkfcgnadpbaaaDoor
/- Walks: LightFrames, SameFrames. -/
namespace Go.Proofs.YtjmkfcgnadpbaaaDoor
open Go.RowKit

def okFr (f : Pf) : Bool := decide (0 ≤ f.d) && (decide (f.d ≤ 99) && decide (f.ps.length ≤ 80))
def lightC (fs : List Pf) : Bool := decide (fs.length ≤ 50) && fs.all okFr

set_option maxHeartbeats 2000000 in
set_option maxRecDepth 100000 in
theorem sameFs_any (v0 v1 : Value) (fs : List Pf) (w : World) (hfs : fs.length ≤ 1000) (hpx : ∀ f ∈ fs, f.ps.length ≤ 1000) (R0 : Hid (RdF w v0 fs)) (R1 : Hid (RdF w v1 fs)) :
    Calls Tryd.prog 9 #[v0, v1] w fun e w' => e = .returned (.bool true) ∧ Below w.heap.size w w' := by
  obtain ⟨a0, cap0, hv0, hl0, hm0⟩ := R0.out.shape
  obtain ⟨a1, cap1, hv1, hl1, hm1⟩ := R1.out.shape
  obtain ⟨n, HN⟩ : ∃ n, Hid (fs.length = n) := ⟨_, (rfl : _ = _)⟩
  rw [HN.out] at hv0 hl0 hv1 hl1 hfs
  subst hv0 hv1
  have hbz : Below w.heap.size w w := Below.refl _ _
  have hnn : ((n : Int) != (n : Int)) = false := by simp
  go_enter Tryd.func9, Tryd.ntmps9
  go_wp2_with fail
  go_loopw [5] (fun i wr => ∃ k : Nat, k ≤ n ∧ i = .int .i64 k ∧ Below w.heap.size w wr) (fun i _ => n - (intOf i).toNat)
  case atStart => exact ⟨0, by omega, rfl, hbz⟩
  case round =>
    obtain ⟨k, hk, rfl, hbr⟩ := hrel
    by_cases hlt : k < n
    · have hlt' : k < fs.length := by rw [HN.out]; exact hlt
      obtain ⟨f, HF⟩ : ∃ f, Hid (fs.getD k pf0 = f) := ⟨_, (rfl : _ = _)⟩
      have hlp : f.ps.length ≤ 1000 := by rw [← HF.out]; exact hpx _ (getD_mem hlt')
      obtain ⟨g, o, ua, m, uc, rfl, hg, c0, c1, c2, c3, HU, HM⟩ := (R0.out.on hbr).at hlt HF
      obtain ⟨g1, o1, ua1, m1, uc1, rfl, hg1, d0, d1, d2, d3, HU1, HM1⟩ := (R1.out.on hbr).at hlt HF
      obtain ⟨fW, fH, fp, fd⟩ := f
      simp only at c0 c1 c2 c3 d0 d1 d2 d3 HU HU1 hlp
      have HUd : Hid (RdP wr.drew (.slice ua m uc) fp) := HU
      have HUd1 : Hid (RdP wr.drew (.slice ua1 m1 uc1) fp) := HU1
      have hdd : (fd != fd) = false := by simp
      have KEEP : Hid (∀ w', Below wr.drew.heap.size wr.drew w' → (w'.cell? ⟨g, o + k * 4, none⟩ = some (.int .i64 fW) ∧ w'.cell? ⟨g, o + k * 4 + 1, none⟩ = some (.int .i64 fH) ∧ w'.cell? ⟨g, o + k * 4 + 2, none⟩ = some (.slice ua m uc) ∧ w'.cell? ⟨g1, o1 + k * 4, none⟩ = some (.int .i64 fW) ∧ w'.cell? ⟨g1, o1 + k * 4 + 1, none⟩ = some (.int .i64 fH) ∧ w'.cell? ⟨g1, o1 + k * 4 + 2, none⟩ = some (.slice ua1 m1 uc1))) := by
        intro w' h
        refine ⟨?_, ?_, ?_, ?_, ?_, ?_⟩
        · rw [h.cell (p := ⟨g, o + k * 4, none⟩) hg]; exact c0
        · rw [h.cell (p := ⟨g, o + k * 4 + 1, none⟩) hg]; exact c1
        · rw [h.cell (p := ⟨g, o + k * 4 + 2, none⟩) hg]; exact c2
        · rw [h.cell (p := ⟨g1, o1 + k * 4, none⟩) hg1]; exact d0
        · rw [h.cell (p := ⟨g1, o1 + k * 4 + 1, none⟩) hg1]; exact d1
        · rw [h.cell (p := ⟨g1, o1 + k * 4 + 2, none⟩) hg1]; exact d2
      clear hlt' HU HU1
      go_wp2_with fail
      go_region_held3 (fun w' => w'.cell? ⟨g, o + k * 4, none⟩ = some (.int .i64 fW) ∧ w'.cell? ⟨g, o + k * 4 + 1, none⟩ = some (.int .i64 fH) ∧ w'.cell? ⟨g, o + k * 4 + 2, none⟩ = some (.slice ua m uc) ∧ w'.cell? ⟨g1, o1 + k * 4, none⟩ = some (.int .i64 fW) ∧ w'.cell? ⟨g1, o1 + k * 4 + 1, none⟩ = some (.int .i64 fH) ∧ w'.cell? ⟨g1, o1 + k * 4 + 2, none⟩ = some (.slice ua1 m1 uc1))
        (first | exact KEEP.out _ hbx | exact ⟨c0, c1, c2, d0, d1, d2⟩ | fail)
        (first | (go_at_call 20; refine (samePicG_any fW fH fW fH _ _ fp fp _ hlp hlp HUd HUd1 true (by unfold Hid; simp [sameC])).mono ?_; rintro e wx ⟨rfl, hbx⟩) | fail)
      have e3 : wx.cell? ⟨g, o + k * 4 + 3, none⟩ = some (.int .i64 fd) := by rw [hbx.cell (p := ⟨g, o + k * 4 + 3, none⟩) hg]; exact c3
      have e4 : wx.cell? ⟨g1, o1 + k * 4 + 3, none⟩ = some (.int .i64 fd) := by rw [hbx.cell (p := ⟨g1, o1 + k * 4 + 3, none⟩) hg1]; exact d3
      have hbx2 : Below w.heap.size w wx := hbr.drew.trans (hbx.mono hbr.size)
      clear c0 c1 c2 c3 d0 d1 d2 d3 KEEP HUd HUd1 hbx
      go_wp2_with fail
      go_quiet (fail)
      go_wp2_with fail
      go_roundw
      case rel => exact ⟨k + 1, by omega, by go_num, below_drewN hbx2 nq⟩
      case measure => simp [intOf]; omega
    · go_wp2_with fail
      go_ret
      exact ⟨rfl, hbr⟩
end Go.Proofs.YtjmkfcgnadpbaaaDoor
/- Lists of objects, as the reference lays one in and drops one. -/
namespace Go.Proofs.YtjmkfcgnadpbaaaDoor
open Go.RowKit

/-- the reference's laying in, an object at a time -/
def stepS (x : Po) (s : List Po × Bool) (p : Po) : List Po × Bool :=
  if p.id = x.id then (if s.2 = false ∧ x.id ≤ p.id then (s.1 ++ [x], true) else s)
  else ((if s.2 = false ∧ x.id ≤ p.id then (s.1 ++ [x], true) else s).1 ++ [p], (if s.2 = false ∧ x.id ≤ p.id then (s.1 ++ [x], true) else s).2)
theorem stepS_in {x p : Po} {out : List Po} (h : x.id ≤ p.id) (he : p.id = x.id) : stepS x (out, false) p = (out ++ [x], true) := by unfold stepS; rw [if_pos he, if_pos ⟨rfl, h⟩]
theorem stepS_both {x p : Po} {out : List Po} (h : x.id ≤ p.id) (he : ¬ p.id = x.id) : stepS x (out, false) p = (out ++ [x] ++ [p], true) := by unfold stepS; rw [if_neg he, if_pos ⟨rfl, h⟩]
theorem stepS_not {x p : Po} {out : List Po} (h : ¬ x.id ≤ p.id) (he : ¬ p.id = x.id) : stepS x (out, false) p = (out ++ [p], false) := by unfold stepS; rw [if_neg he, if_neg (fun hh => h hh.2)]
theorem stepS_laid (x : Po) : ∀ (os : List Po) (o : List Po), (∀ p ∈ os, x.id < p.id) → os.foldl (stepS x) (o, true) = (o ++ os, true) := by
  intro os
  induction os with
  | nil => intro o _; simp
  | cons a r ih =>
    intro o h
    have ha := h a (by simp)
    have : stepS x (o, true) a = (o ++ [a], true) := by unfold stepS; rw [if_neg (by omega)]; simp
    rw [List.foldl_cons, this, ih _ (fun p hp => h p (by simp [hp]))]
    simp
theorem sort_cons {a : Po} {r : List Po} (h : SortO (a :: r)) : SortO r ∧ ∀ p ∈ r, a.id < p.id := by
  refine ⟨fun i j hij hj => ?_, fun p hp => ?_⟩
  · have := h (i + 1) (j + 1) (by omega) (by simp; omega)
    rw [getD_succ, getD_succ] at this
    exact this
  · obtain ⟨j, hj, e⟩ := List.mem_iff_getElem.1 hp
    have := h 0 (j + 1) (by omega) (by simp; omega)
    rw [getD_zero, getD_succ, List.getD_eq_getElem?_getD, List.getElem?_eq_getElem hj] at this
    rw [← e]
    exact this
def finS (x : Po) (s : List Po × Bool) : List Po := if s.2 = false then s.1 ++ [x] else s.1
theorem finS_eq (x : Po) : ∀ (os : List Po) (o : List Po), SortO os → finS x (os.foldl (stepS x) (o, false)) = o ++ setO os x := by
  intro os
  induction os with
  | nil => intro o _; simp [finS, setO]
  | cons a r ih =>
    intro o h
    obtain ⟨h1, h2⟩ := sort_cons h
    rw [List.foldl_cons]
    rcases Int.lt_trichotomy a.id x.id with hl | he | hg
    · have c : ¬ (((o, false) : List Po × Bool).2 = false ∧ x.id ≤ a.id) := fun hh => by have := hh.2; omega
      have c1 : ¬ a.id = x.id := by omega
      have c2 : ¬ x.id < a.id := by omega
      have : stepS x (o, false) a = (o ++ [a], false) := by unfold stepS; rw [if_neg c1, if_neg c]
      rw [this, ih _ h1]
      simp only [setO]
      rw [if_neg c2, if_neg c1]
      simp
    · have c : (((o, false) : List Po × Bool).2 = false ∧ x.id ≤ a.id) := ⟨rfl, by omega⟩
      have c2 : ¬ x.id < a.id := by omega
      have : stepS x (o, false) a = (o ++ [x], true) := by unfold stepS; rw [if_pos he, if_pos c]
      rw [this, stepS_laid x r _ (fun p hp => by have := h2 p hp; omega)]
      simp only [setO, finS]
      rw [if_neg c2, if_pos he, if_neg (by decide)]
      simp
    · have c : (((o, false) : List Po × Bool).2 = false ∧ x.id ≤ a.id) := ⟨rfl, by omega⟩
      have c1 : ¬ a.id = x.id := by omega
      have : stepS x (o, false) a = (o ++ [x] ++ [a], true) := by unfold stepS; rw [if_neg c1, if_pos c]
      rw [this, stepS_laid x r _ (fun p hp => by have := h2 p hp; omega)]
      simp only [setO, finS]
      rw [if_pos hg, if_neg (by decide)]
      simp
theorem stepS_len (x : Po) (s : List Po × Bool) (p : Po) : (stepS x s p).1.length ≤ s.1.length + 2 := by
  unfold stepS
  split <;> split <;> simp
theorem foldS_len (x : Po) : ∀ (os : List Po) (s : List Po × Bool), (os.foldl (stepS x) s).1.length ≤ s.1.length + 2 * os.length := by
  intro os
  induction os with
  | nil => intro s; simp
  | cons a r ih =>
    intro s
    rw [List.foldl_cons]
    have h1 := ih (stepS x s a)
    have h2 := stepS_len x s a
    simp only [List.length_cons]
    omega
theorem take_fold {os : List Po} {k : Nat} (hk : k < os.length) (x : Po) (s : List Po × Bool) : (os.take (k + 1)).foldl (stepS x) s = stepS x ((os.take k).foldl (stepS x) s) (os.getD k po0) := by
  rw [List.take_succ_eq_append_getElem hk, List.foldl_append, List.getD_eq_getElem?_getD, List.getElem?_eq_getElem hk]
  rfl

theorem flt_next (os : List Po) (t : Int) (k : Nat) (hk : k < os.length) {o : Po} (ho : os.getD k po0 = o) : (os.take (k + 1)).filter (fun o => decide (o.id ≠ t)) = (os.take k).filter (fun o => decide (o.id ≠ t)) ++ (if o.id ≠ t then [o] else []) := by
  subst ho
  rw [List.take_succ_eq_append_getElem hk, List.filter_append, List.getD_eq_getElem?_getD, List.getElem?_eq_getElem hk]
  simp only [Option.getD_some, List.filter_cons, List.filter_nil]
  by_cases h : os[k].id = t
  · simp [h]
  · simp [h]
theorem flt_len (os : List Po) (t : Int) (k : Nat) : ((os.take k).filter (fun o => decide (o.id ≠ t))).length ≤ os.length := by
  have h1 := List.length_filter_le (fun o : Po => decide (o.id ≠ t)) (os.take k)
  have h2 := List.length_take_le k os
  have h3 := List.length_take_le' k os
  omega
end Go.Proofs.YtjmkfcgnadpbaaaDoor
