/- Walk of chunk.Bytes. -/
import Derived.Test.YtjoggjjkafamlabChunkA
import Derived.Deep.RegionWith
import Derived.Deep.Cut
namespace Go.Proofs.Ytjoggjjkafamlab
open Go.RowKit

theorem bcell {W w1 : World} (hb : Below W.heap.size W w1) : (∀ b o, b < W.heap.size → w1.cell? ⟨b, o, none⟩ = W.cell? ⟨b, o, none⟩) ∧ (∀ b o, b < W.heap.size → w1.frozen? ⟨b, o, none⟩ = W.frozen? ⟨b, o, none⟩) :=
  ⟨fun b o h => hb.cell (p := ⟨b, o, none⟩) h, fun b o h => hb.frozen (p := ⟨b, o, none⟩) h⟩

theorem pair_at (A B : Int) (a b : Nat) (p : ByteArray) (w : World) (hA : Hid (A = (a : Int))) (hB : Hid (B = (b : Int))) (ha : a < 256) (hb : b < 256) (HP : Hid ((⟨(Fb.pairL a b).toArray⟩ : ByteArray) = p)) :
    Calls Try.prog 17 #[.int .i64 A, .int .i64 B] w fun e w' => e = .returned (.string p) ∧ Below w.heap.size w w' := by
  rw [hA.out, hB.out, ← HP.out]
  exact pair_any (a : Int) (b : Int) w (by omega) (by omega) (by omega) (by omega)

set_option maxHeartbeats 2000000 in
set_option maxRecDepth 100000 in
theorem bytes_any (n d : ByteArray) (w : World) (hn : n.size ≤ 9223372036854775807) (hd : d.size ≤ 9223372036854775807) :
    Calls Try.prog 7 #[.agg #[.string n, .string d]] w fun e w' => e = .returned (.tuple #[str (Fb.chunkBytes n.data.toList d.data.toList).1, errV (Fb.chunkBytes n.data.toList d.data.toList).2]) ∧ Below w.heap.size w w' := by
  have HLN : Hid (n.data.toList.length = n.size) := by unfold Hid; simp
  have HLD : Hid (d.data.toList.length = d.size) := by unfold Hid; simp
  cases hnm : Fb.nameB n.data.toList with
  | false =>
    have HN : Hid (Fb.nameB n.data.toList = false) := hnm
    have HF : Hid (Fb.chunkBytes n.data.toList d.data.toList = ([], 3)) := by unfold Hid Fb.chunkBytes; rw [if_pos hnm]
    clear hnm
    go_enter Try.func7, Try.ntmps7
    go_wp2_with fail
    refine (name_any n _ hn false HN).mono ?_
    rintro e w1 ⟨rfl, rfl⟩
    go_wp2_with fail
    go_ret2
    exact ⟨by rw [HF.out]; rfl, (Below.refl _ _).alloc (Nat.le_refl _) _⟩
  | true =>
    have HN : Hid (Fb.nameB n.data.toList = true) := hnm
    have hn4 : n.size ≤ 4 := by have := Fb.nameB_len hnm; rw [HLN.out] at this; omega
    clear hnm
    by_cases hbig : 65535 < d.size
    · have HF : Hid (Fb.chunkBytes n.data.toList d.data.toList = ([], 2)) := by unfold Hid Fb.chunkBytes; rw [if_neg (by rw [HN.out]; decide), if_pos (by rw [HLD.out]; exact hbig)]
      go_enter Try.func7, Try.ntmps7
      go_wp2_with fail
      refine (name_any n _ hn true HN).mono ?_
      rintro e w1 ⟨rfl, rfl⟩
      go_wp2_with fail
      go_ret2
      exact ⟨by rw [HF.out]; rfl, (Below.refl _ _).alloc (Nat.le_refl _) _⟩
    · have HF : Hid (Fb.chunkBytes n.data.toList d.data.toList = (Fb.sealL (Fb.headL n.data.toList d.data.toList), 0)) := by unfold Hid Fb.chunkBytes; rw [if_neg (by rw [HN.out]; decide), if_neg (by rw [HLD.out]; exact hbig)]
      obtain ⟨r, HR⟩ : ∃ r, Hid (d.size % 256 = r) := ⟨_, (rfl : _ = _)⟩
      obtain ⟨q, HQ⟩ : ∃ r, Hid (d.size / 256 = r) := ⟨_, (rfl : _ = _)⟩
      obtain ⟨p, HP⟩ : ∃ p, Hid ((⟨(Fb.pairL r q).toArray⟩ : ByteArray) = p) := ⟨_, (rfl : _ = _)⟩
      have hr : r < 256 := by rw [← HR.out]; omega
      have hq : q < 256 := by rw [← HQ.out]; omega
      have HA : Hid ((d.size : Int).tmod 256 = (r : Int)) := by unfold Hid; rw [Int.tmod_eq_emod_of_nonneg (by omega), ← HR.out]; omega
      have HB : Hid (IntKind.i64.wrap ((d.size : Int) / 256) = (q : Int)) := by unfold Hid; rw [IntKind.wrap_i64, ← HQ.out]; omega
      have hp2 : p.size = 2 := by rw [← HP.out]; rfl
      go_enter Try.func7, Try.ntmps7
      go_wp2_with fail
      refine (name_any n _ hn true HN).mono ?_
      rintro e w1 ⟨rfl, rfl⟩
      go_upto_region 6 with fail
      go_cut [5] from 6 (fun s5 wc => s5 = .string (n ++ p ++ d) ∧ Below w.heap.size w wc)
      case first =>
        go_region_with (go_at_call 17; refine (pair_at _ _ r q p _ HA HB hr hq HP).mono ?_; rintro e w2 ⟨rfl, hb2⟩; obtain ⟨hc2, hf2⟩ := bcell hb2)
        all_goals (go_wp2_with fail; go_meet)
        all_goals exact ⟨rfl, bt ((Below.refl _ _).alloc (Nat.le_refl _) _).drew hb2⟩
      case rest =>
        obtain ⟨rfl, hbc⟩ := hcut
        obtain ⟨t, HT⟩ : ∃ t, Hid (n ++ p ++ d = t) := ⟨_, (rfl : _ = _)⟩
        rw [HT.out]
        have htl : t.data.toList = Fb.headL n.data.toList d.data.toList := by
          rw [← HT.out, ByteArray.data_append, ByteArray.data_append, ← HP.out]
          unfold Fb.headL
          rw [HLD.out, HR.out, HQ.out]
          simp
        have hts : t.size ≤ 66000 := by
          rw [← HT.out, ByteArray.size_append, ByteArray.size_append, hp2]; omega
        obtain ⟨z, HZ⟩ : ∃ z, Hid (Fb.sumL t.data.toList = z) := ⟨_, (rfl : _ = _)⟩
        obtain ⟨za, zb⟩ := z
        obtain ⟨p2, HP2⟩ : ∃ p, Hid ((⟨(Fb.pairL za zb).toArray⟩ : ByteArray) = p) := ⟨_, (rfl : _ = _)⟩
        have hz := Fb.sumL_lt t.data.toList
        rw [HZ.out] at hz
        obtain ⟨hza, hzb⟩ := hz
        simp only at hza hzb
        have hp22 : p2.size = 2 := by rw [← HP2.out]; rfl
        have HG : Hid (Fb.sealL (Fb.headL n.data.toList d.data.toList) = (t ++ p2).data.toList) := by
          unfold Hid Fb.sealL
          rw [← htl, HZ.out, ByteArray.data_append, ← HP2.out]
          simp
        clear htl
        go_wp2_with fail
        refine (sum_any t _ (by omega) za zb HZ).mono ?_
        rintro e w3 ⟨rfl, rfl⟩
        go_wp2_with fail
        refine (pair_at _ _ za zb p2 _ rfl rfl (by omega) (by omega) HP2).mono ?_
        rintro e w4 ⟨rfl, hb4⟩
        go_wp2_with fail
        go_ret2
        exact ⟨ret2 (by rw [HF.out, HG.out, str_self]; rfl) (by rw [HF.out]; rfl), hbc.trans (hb4.mono hbc.size)⟩
end Go.Proofs.Ytjoggjjkafamlab
