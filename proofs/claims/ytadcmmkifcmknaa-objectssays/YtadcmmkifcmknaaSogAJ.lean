/- Walk: SameObject of any two. -/
import Derived.Test.YtadcmmkifcmknaaSoAJ
import Derived.Test.YtadcmmkifcmknaaSameGJ
namespace Go.Proofs.Ytadcmmkifcmknaa
open Go.RowKit

theorem eq_rectG (X : World) (a b c d a' b' c' d' : Int) : (binOp .eql 27 (.agg #[.int .i64 a, .int .i64 b, .int .i64 c, .int .i64 d]) (.agg #[.int .i64 a', .int .i64 b', .int .i64 c', .int .i64 d'])).run Try.prog X = .ok (.bool (decide (a = a') && (decide (b = b') && (decide (c = c') && decide (d = d'))))) X := by
  have h : (Op.equalIn 10000 27 (.agg #[.int .i64 a, .int .i64 b, .int .i64 c, .int .i64 d]) (.agg #[.int .i64 a', .int .i64 b', .int .i64 c', .int .i64 d'])).run Try.prog X = .ok (decide (a = a') && (decide (b = b') && (decide (c = c') && decide (d = d')))) X := by
    have u3 := Try.underlying3
    rw [run_equalIn_agg X 9999 27 _ _ (by kernel_rfl) (by kernel_rfl)]
    simp only [Program.fieldsOf, Try.underlying27]
    by_cases h1 : a = a'
    · by_cases h2 : b = b'
      · by_cases h3 : c = c'
        · by_cases h4 : d = d'
          · subst h1 h2 h3 h4; go_simp
          · subst h1 h2 h3; go_simp
        · subst h1 h2; go_simp
      · subst h1; go_simp
    · go_simp
  rw [run_eql_struct, h]
  rfl

/-- some answer: true for the same -/
def SoP (x y : Po) (w : World) (e : Ending) (w' : World) : Prop := ∃ b, e = .returned (.bool b) ∧ (x = y → b = true) ∧ Below w.heap.size w w'
set_option maxHeartbeats 8000000 in
set_option maxRecDepth 100000 in
theorem sameObG_any (x y : Po) (u0 u1 : Value) (w : World) (hps : x.ps.length ≤ 1000) (hqs : y.ps.length ≤ 1000) (H0 : Hid (RdP w u0 x.ps)) (H1 : Hid (RdP w u1 y.ps)) :
    Calls Try.prog 13 #[poV x u0, poV y u1] w fun e w' => SoP x y w e w' := by
  by_cases hxy : x = y
  · subst hxy
    refine (sameOb_any x u0 u1 w hps H0 H1).mono ?_
    rintro e w' ⟨rfl, hb⟩
    exact ⟨true, rfl, fun _ => rfl, hb⟩
  have HNE := hid_of2 hxy
  clear hxy
  obtain ⟨a0, c0, hv0, _, _, hh0⟩ := H0.out
  obtain ⟨a1, c1, hv1, _, _, hh1⟩ := H1.out
  obtain ⟨n, HN⟩ : ∃ n, Hid (x.ps.length = n) := ⟨_, (rfl : _ = _)⟩
  obtain ⟨m, HM⟩ : ∃ n, Hid (y.ps.length = n) := ⟨_, (rfl : _ = _)⟩
  rw [HN.out] at hv0
  rw [HM.out] at hv1
  clear hh0 hh1
  subst hv0 hv1
  unfold poV objV
  obtain ⟨X0, HX0⟩ : ∃ X0, Hid ((w.alloc (.cells #[.int .i64 x.id, .int .i64 x.x, .int .i64 x.y, .int .i64 x.pw, .int .i64 x.ph, .slice a0 n c0, .int .i64 x.cx, .int .i64 x.cy, .int .i64 x.cw, .int .i64 x.ch, .bool x.sh] 29)).alloc (.cells #[.int .i64 y.id, .int .i64 y.x, .int .i64 y.y, .int .i64 y.pw, .int .i64 y.ph, .slice a1 m c1, .int .i64 y.cx, .int .i64 y.cy, .int .i64 y.cw, .int .i64 y.ch, .bool y.sh] 29) = X0) := ⟨_, (rfl : _ = _)⟩
  have hbz : Below w.heap.size w X0 := by rw [← HX0.out]; exact ((Below.refl _ _).alloc (Nat.le_refl _) _).alloc (by simp) _
  have E0 : Eleven X0 w.heap.size (.int .i64 x.id) (.int .i64 x.x) (.int .i64 x.y) (.int .i64 x.pw) (.int .i64 x.ph) (.slice a0 n c0) (.int .i64 x.cx) (.int .i64 x.cy) (.int .i64 x.cw) (.int .i64 x.ch) (.bool x.sh) := by rw [← HX0.out]; exact (eleven_start w _ _ _ _ _ _ _ _ _ _ _ 29 w.heap.size rfl).alloc _
  have E1 : Eleven X0 (w.heap.size + 1) (.int .i64 y.id) (.int .i64 y.x) (.int .i64 y.y) (.int .i64 y.pw) (.int .i64 y.ph) (.slice a1 m c1) (.int .i64 y.cx) (.int .i64 y.cy) (.int .i64 y.cw) (.int .i64 y.ch) (.bool y.sh) := by rw [← HX0.out]; exact eleven_start _ _ _ _ _ _ _ _ _ _ _ _ 29 (w.heap.size + 1) (by simp)
  have HR0 : Hid (RdP X0 (.slice a0 n c0) x.ps) := H0.out.on hbz
  have HR1 : Hid (RdP X0 (.slice a1 m c1) y.ps) := H1.out.on hbz
  obtain ⟨bp, HBP⟩ : ∃ b, Hid (sameC x.pw x.ph x.ps y.pw y.ph y.ps = b) := ⟨_, (rfl : _ = _)⟩
  go_enter Try.func13, Try.ntmps13
  go_wp2_with fail
  rw [HX0.out]
  refine (samePicG_any x.pw x.ph y.pw y.ph _ _ x.ps y.ps _ hps hqs HR0 HR1 bp HBP).mono ?_
  rintro e w1 ⟨rfl, hb1⟩
  have hbb1 := hbz.trans (hb1.mono hbz.size)
  obtain ⟨s0, s1, s2, s3, s4, s5, s6, s7, s8, s9, s10, sf0, sf1, sf2, sf3, sf4, sf5, sf6, sf7, sf8, sf9, sf10, slt⟩ := E0.on hb1
  obtain ⟨t0, t1, t2, t3, t4, t5, t6, t7, t8, t9, t10, tf0, tf1, tf2, tf3, tf4, tf5, tf6, tf7, tf8, tf9, tf10, tlt⟩ := E1.on hb1
  clear HX0 hbz E0 E1 HR0 HR1 hb1
  cases bp with
  | false =>
    go_wp2_with fail
    go_ret
    exact ⟨_, rfl, fun h => absurd h HNE.out, hbb1⟩
  | true =>
    by_cases e1 : (x.id == y.id) = true
    case neg =>
      have e1 : (x.id == y.id) = false := by simpa using e1
      go_wp2_with fail
      go_ret
      exact ⟨_, rfl, fun h => absurd h HNE.out, hbb1⟩
    by_cases e2 : (x.x == y.x) = true
    case neg =>
      have e2 : (x.x == y.x) = false := by simpa using e2
      go_wp2_with fail
      go_ret
      exact ⟨_, rfl, fun h => absurd h HNE.out, hbb1⟩
    by_cases e3 : (x.y == y.y) = true
    case neg =>
      have e3 : (x.y == y.y) = false := by simpa using e3
      go_wp2_with fail
      go_ret
      exact ⟨_, rfl, fun h => absurd h HNE.out, hbb1⟩
    have e5 := fun X => eq_rectG X x.cx x.cy x.cw x.ch y.cx y.cy y.cw y.ch
    obtain ⟨br, HBR⟩ : ∃ b, Hid ((decide (x.cx = y.cx) && (decide (x.cy = y.cy) && (decide (x.cw = y.cw) && decide (x.ch = y.ch)))) = b) := ⟨_, (rfl : _ = _)⟩
    rw [HBR.out] at e5
    cases br with
    | false =>
      go_wp2_with fail
      go_ret
      exact ⟨_, rfl, fun h => absurd h HNE.out, hbb1⟩
    | true =>
      go_wp2_with fail
      go_ret
      exact ⟨_, rfl, fun h => absurd h HNE.out, hbb1⟩
end Go.Proofs.Ytadcmmkifcmknaa
