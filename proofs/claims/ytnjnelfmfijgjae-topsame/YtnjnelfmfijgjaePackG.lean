/- Small lemmas on texts, on what lies below, and on two bytes made a text. -/
import Derived.Test.YtnjnelfmfijgjaePackC
import Derived.Test.YtnjnelfmfijgjaePackM2
namespace Go.Proofs.Ytnjnelfmfijgjae
open Go.RowKit

theorem bt {a b c : World} (h1 : Below a.heap.size a b) (h2 : Below b.heap.size b c) : Below a.heap.size a c := h1.trans (h2.mono h1.size)

theorem str_self (s : ByteArray) : str s.data.toList = .string s := by unfold str; simp

theorem ext_one (s : ByteArray) (k : Nat) (h : k < s.size) : s.extract k (k + 1) = ⟨#[s.data.toList.getD k 0]⟩ := by
  have h2 : k < s.data.toList.length := by simpa using h
  have h3 : k < s.data.size := by simpa using h
  apply ByteArray.ext
  rw [ByteArray.data_extract]
  apply Array.ext'
  rw [Array.toList_extract, List.extract_eq_take_drop, List.drop_eq_getElem_cons h2]
  simp only [List.getD_eq_getElem?_getD, List.getElem?_eq_getElem h2]
  simp

theorem add_data (a : ByteArray) (x : UInt8) : (a ++ (⟨#[x]⟩ : ByteArray)).data.toList = a.data.toList ++ [x] := by
  rw [ByteArray.data_append]; simp
theorem add_size (a : ByteArray) (x : UInt8) : (a ++ (⟨#[x]⟩ : ByteArray)).size = a.size + 1 := by
  rw [ByteArray.size_append]; rfl

theorem run_pair (W : World) (B : Nat) (hB : B = W.heap.size) (a b : Int) (x y : UInt8) (ha : Hid ((x.toNat : Int) = a)) (hb : Hid ((y.toNat : Int) = b)) :
    (convert 46 9 (.slice (some ⟨B, 0, none⟩) 2 2)).run Try.prog (W.alloc (.cells #[.int .u8 a, .int .u8 b] 5)) = .ok (.string ⟨#[x, y]⟩) (W.alloc (.cells #[.int .u8 a, .int .u8 b] 5)) := by
  subst hB
  refine run_convert_bytes_back _ 46 9 5 ⟨W.heap.size, 0, none⟩ 2 [x, y] Try.underlying46 Try.underlying5 Try.underlying9 ?_
  intro j hj
  match j, hj with
  | 0, _ => have := two_new W a b 0 _ rfl; rw [this, ← ha.out]; rfl
  | 1, _ => have := two_new W a b 1 _ rfl; rw [this, ← hb.out]; rfl

theorem add_two (a : ByteArray) (x y : UInt8) : (a ++ (⟨#[x, y]⟩ : ByteArray)).data.toList = a.data.toList ++ [x, y] := by
  rw [ByteArray.data_append]; simp
theorem add_two_size (a : ByteArray) (x y : UInt8) : (a ++ (⟨#[x, y]⟩ : ByteArray)).size = a.size + 2 := by
  rw [ByteArray.size_append]; rfl

end Go.Proofs.Ytnjnelfmfijgjae
