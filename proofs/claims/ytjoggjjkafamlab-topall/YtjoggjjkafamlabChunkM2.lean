/- Plain lemmas: a chunk that was written is read as it was. -/
import Derived.Test.YtjoggjjkafamlabChunkMath
import Derived.Test.YtjoggjjkafamlabPackM2
namespace Go.Proofs.Ytjoggjjkafamlab
namespace Fb

theorem headL_len (name data : List UInt8) (h : name.length = 4) : (headL name data).length = 6 + data.length := by
  unfold headL pairL; simp [h]; omega

theorem sealL_len (l : List UInt8) : (sealL l).length = l.length + 2 := by unfold sealL pairL; simp

theorem headL_take4 (name data : List UInt8) (h : name.length = 4) : (headL name data).take 4 = name := by
  unfold headL; rw [List.append_assoc, List.take_append_of_le_length (by omega), List.take_of_length_le (by omega)]

theorem headL_drop6 (name data : List UInt8) (h : name.length = 4) : (headL name data).drop 6 = data := by
  unfold headL
  rw [List.drop_append_of_le_length (by unfold pairL; simp [h])]
  rw [List.drop_of_length_le (by unfold pairL; simp [h])]
  rfl

theorem headL_bytes (name data tail : List UInt8) (h : name.length = 4) :
    (headL name data ++ tail).getD 4 0 = UInt8.ofNat (data.length % 256) ∧ (headL name data ++ tail).getD 5 0 = UInt8.ofNat (data.length / 256) := by
  unfold headL pairL
  constructor
  · rw [List.append_assoc, List.append_assoc, List.getD_eq_getElem?_getD, List.getElem?_append_right (by omega), h]; rfl
  · rw [List.append_assoc, List.append_assoc, List.getD_eq_getElem?_getD, List.getElem?_append_right (by omega), h]; rfl

theorem endL_head (name data tail : List UInt8) (h : name.length = 4) (hd : data.length ≤ 65535) : endL (headL name data ++ tail) = 6 + data.length := by
  obtain ⟨h4, h5⟩ := headL_bytes name data tail h
  unfold endL
  rw [h4, h5, ofNat_toNat _ (by omega), ofNat_toNat _ (by omega)]
  omega

/-- what follows the head decides: the two bytes behind it are its sum, or they aren't -/
theorem measure_head (name data tail : List UInt8) (hn : nameB name = true) (hd : data.length ≤ 65535) (ht : 2 ≤ tail.length) :
    measureL (headL name data ++ tail) = if tail.take 2 = pairL (sumL (headL name data)).1 (sumL (headL name data)).2 then (8 + data.length, 0) else (0, 6) := by
  have h4 := nameB_len hn
  have hl : (headL name data ++ tail).length = 6 + data.length + tail.length := by rw [List.length_append, headL_len _ _ h4]
  have he := endL_head name data tail h4 hd
  have htk : (headL name data ++ tail).take 4 = name := by
    rw [List.take_append_of_le_length (by rw [headL_len _ _ h4]; omega), headL_take4 _ _ h4]
  have htk2 : (headL name data ++ tail).take (6 + data.length) = headL name data := by
    rw [List.take_append_of_le_length (by rw [headL_len _ _ h4]; omega), List.take_of_length_le (by rw [headL_len _ _ h4]; omega)]
  have hdr : (headL name data ++ tail).drop (6 + data.length) = tail := by
    rw [List.drop_append_of_le_length (by rw [headL_len _ _ h4]; omega), List.drop_of_length_le (by rw [headL_len _ _ h4]; omega)]; rfl
  unfold measureL
  rw [if_neg, he, hl, if_neg (by omega), htk2, hdr]
  · rw [show 6 + data.length + 2 = 8 + data.length by omega]
  · intro h
    rcases h with h | h
    · rw [hl] at h; omega
    · rw [htk, hn] at h; cases h

theorem measure_seal (name data rest : List UInt8) (hn : nameB name = true) (hd : data.length ≤ 65535) : measureL (sealL (headL name data) ++ rest) = (8 + data.length, 0) := by
  unfold sealL
  rw [List.append_assoc, measure_head name data _ hn hd (by unfold pairL; simp), if_pos]
  unfold pairL; simp

theorem first_seal (name data rest : List UInt8) (hn : nameB name = true) (hd : data.length ≤ 65535) : firstL (sealL (headL name data) ++ rest) = (name, data, rest, 0) := by
  have h4 := nameB_len hn
  have hL := headL_len name data h4
  have hS : (sealL (headL name data)).length = 8 + data.length := by rw [sealL_len, hL]; omega
  unfold firstL
  rw [measure_seal name data rest hn hd]
  simp only [if_true]
  have e1 : (sealL (headL name data) ++ rest).take 4 = name := by
    rw [List.take_append_of_le_length (by omega)]
    unfold sealL
    rw [List.take_append_of_le_length (by omega), headL_take4 _ _ h4]
  have e2 : (((sealL (headL name data) ++ rest).take (8 + data.length)).drop 6).take (8 + data.length - 8) = data := by
    have e0 : (sealL (headL name data) ++ rest).take (8 + data.length) = sealL (headL name data) := by
      rw [List.take_append_of_le_length (by omega), List.take_of_length_le (by omega)]
    rw [e0]
    unfold sealL
    rw [List.drop_append_of_le_length (by omega), headL_drop6 _ _ h4, List.take_append_of_le_length (by omega), List.take_of_length_le (by omega)]
  have e3 : (sealL (headL name data) ++ rest).drop (8 + data.length) = rest := by
    rw [List.drop_append_of_le_length (by omega), List.drop_of_length_le (by omega)]; rfl
  rw [e1, e2, e3]

theorem chunkBytes_ok (name data : List UInt8) (hn : nameB name = true) (hd : data.length ≤ 65535) : chunkBytes name data = (sealL (headL name data), 0) := by
  unfold chunkBytes; rw [if_neg (by rw [hn]; decide), if_neg (by omega)]
theorem chunkBytes_no (name data : List UInt8) (hn : nameB name = false) : chunkBytes name data = ([], 3) := by
  unfold chunkBytes; rw [if_pos hn]

end Fb
end Go.Proofs.Ytjoggjjkafamlab
