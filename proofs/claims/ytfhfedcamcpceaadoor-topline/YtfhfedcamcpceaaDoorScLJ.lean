/- What the laid variables of the script's laws say: the words, the library's tables and errors. -- s1 -/
import Derived.Test.YtfhfedcamcpceaaDoorScIJ
import Derived.Test.YtfhfedcamcpceaaDoorRows
import Derived.Lib.LaidTab
import Derived.Stop.LaidErr
import Derived.Shelf.Vars
namespace Go.Proofs.YtfhfedcamcpceaaDoor
open Go.RowKit Go.Lib

theorem laid_words (H : Type) : (Rows.laid_flickerbook_script_words : DataW H) = .agg (Sc.wdB.map fun l => .lit (.string l)) := rfl
theorem Tryd.cellsWd : Tryd.prog.cellsOf 85 = 16 := by kernel_rfl
theorem Tryd.cellsTx : Tryd.prog.cellsOf 9 = 1 := by kernel_rfl
set_option maxRecDepth 100000 in
theorem words_of_laid {W : World} {rest : List (String × DataW Unit)} (h : laidMet Tryd.prog (("flickerbook/script.words", Rows.laid_flickerbook_script_words) :: rest) W) : WordsP W := by
  obtain ⟨ps, ⟨g', t', cs, fuel, p, q, hg', ht', hvar, hd, _, _⟩, _⟩ := h
  obtain rfl := Option.some.inj ((show Tryd.prog.globalNamed "flickerbook/script.words" = some 1 by kernel_rfl).symm.trans hg')
  obtain rfl := Option.some.inj ((show (Tryd.prog.globals[1]?).map (·.type) = some 85 by kernel_rfl).symm.trans ht')
  rw [laid_words] at hd
  cases fuel with
  | zero => simp [DataW.trod] at hd
  | succ fuel =>
    simp only [DataW.trod, Tryd.underlying85, Tryd.cellsTx, Tryd.cellsWd] at hd
    split at hd
    · rename_i hlen
      obtain ⟨xs, hm, hx⟩ := Option.map_eq_some_iff.1 hd
      have hxs : xs.map (·.1) = Sc.wdB.map fun l => DataW.lit (.string l) := by
        have := congrArg Prod.fst hx
        simpa using this
      intro k s hk
      have hk16 : k < 16 := by
        rcases Nat.lt_or_ge k 16 with h | h
        · exact h
        · rw [List.getElem?_eq_none (by rw [show Sc.wdB.length = 16 from rfl]; exact h)] at hk; cases hk
      obtain ⟨b, hb, hf⟩ := mapM_at hm k k (by simp [hk16])
      have hb1 : b.1 = .lit (.string s) := by
        have h2 : (xs.map (·.1))[k]? = some b.1 := by simp [hb]
        rw [hxs, List.getElem?_map, hk] at h2
        exact (Option.some.inj h2).symm
      obtain ⟨x, hc, rfl, -⟩ := DataW.trod_string Tryd.underlying9 hf
      simp only [DataW.lit.injEq, Lit.string.injEq] at hb1
      rw [World.var?_cell hg' hvar]
      have h3 : (cs.toList.drop (k * 1)).take 1 = [Value.string x] := by simpa using hc
      have h4 : cs.toList[k]? = some (.string x) := by
        have := congrArg (·[0]?) h3
        simpa [List.getElem?_take, List.getElem?_drop] using this
      rw [← hb1]
      simpa using h4
    · cases hd
theorem laid_pow (H : Type) : (Rows.laid_internal_strconv_uint64pow10 : DataW H) = tabData .u64 pow10Tab := by kernel_rfl
theorem pow_of_laid {W : World} {rest : List (String × DataW Unit)} (h : laidMet Tryd.prog (("internal/strconv.uint64pow10", Rows.laid_internal_strconv_uint64pow10) :: rest) W) : ∃ T fz, W.heap[9]? = some (.cells (Lib.pow10Tab.map fun z => Value.int .u64 z).toArray T fz) := by
  rw [laid_pow] at h
  have ht := tabIs_of_head (g := 9) (t := 169) (e := 148) (n := 20) (by kernel_rfl) (by kernel_rfl) Tryd.underlying169 Tryd.underlying148 (by kernel_rfl) (by kernel_rfl) h
  unfold TabIs World.var? at ht
  rw [show Tryd.prog.globalNamed "internal/strconv.uint64pow10" = some 9 by kernel_rfl] at ht
  simp only [Option.bind_some] at ht
  split at ht
  · rename_i cs T fz hh
    obtain rfl := Option.some.inj ht
    exact ⟨T, fz, hh⟩
  · cases ht
theorem Tryd.rowErr (u : TypeId) (h : Tryd.prog.typeName? 3 u = some "*errors.errorString") : u = 174 := by
  have star : "*" ++ "errors.errorString" = "*errors.errorString" := by decide
  exact typeName_ptr_named (nm := "errors.errorString") (by rw [star]; kernel_rfl) (by kernel_rfl) (by decide) u (by rw [star]; exact h)
theorem ran_of_laid {W : World} {rest : List (String × DataW Unit)} (h : laidMet Tryd.prog (("strconv.ErrRange", Rows.laid_strconv_ErrRange) :: rest) W) : ∃ tp p, W.cell? ⟨8, 0, none⟩ = some (.iface tp p) := by
  have hg : Tryd.prog.globalNamed "strconv.ErrRange" = some 8 := by kernel_rfl
  obtain ⟨a, s, hv, -, -, -⟩ := laid_sentinel h hg (ti := 32) (by kernel_rfl) Tryd.underlying32 Tryd.rowErr Tryd.underlying174 Tryd.underlying176 rfl rfl Tryd.underlying9 (by kernel_rfl) Tryd.cellsTx
  exact ⟨_, _, by simpa using World.var?_cell hg hv 0⟩
theorem syn_of_laid {W : World} {rest : List (String × DataW Unit)} (h : laidMet Tryd.prog (("strconv.ErrSyntax", Rows.laid_strconv_ErrSyntax) :: rest) W) : ∃ tp p, W.cell? ⟨7, 0, none⟩ = some (.iface tp p) := by
  have hg : Tryd.prog.globalNamed "strconv.ErrSyntax" = some 7 := by kernel_rfl
  obtain ⟨a, s, hv, -, -, -⟩ := laid_sentinel h hg (ti := 32) (by kernel_rfl) Tryd.underlying32 Tryd.rowErr Tryd.underlying174 Tryd.underlying176 rfl rfl Tryd.underlying9 (by kernel_rfl) Tryd.cellsTx
  exact ⟨_, _, by simpa using World.var?_cell hg hv 0⟩
theorem max_of_open {W : World} (h : W.ShapedOpen Tryd.prog) : ∃ m, W.cell? ⟨4, 0, none⟩ = some (.int .i64 m) :=
  cell_of_shapedOpen_int (P := Tryd.prog) (g := 4) (t := 3) (zero := #[.int .i64 0]) h (of_decide_eq_true (by kernel_rfl)) (by kernel_rfl) rfl (by kernel_rfl) (by kernel_rfl) Tryd.underlying3
/-- the cells of a datum without rows of its own -/
def flatD : Nat → DataW Unit → List Value
  | 0, _ => []
  | n + 1, .agg xs => xs.flatMap (flatD n)
  | _ + 1, .lit (.int k z) => [.int k z]
  | _ + 1, .lit (.string bs) => [.string ⟨bs.toArray⟩]
  | _ + 1, .lit (.bool b) => [.bool b]
  | _, _ => []
def flatR : DataW Unit → List Value
  | .slice xs _ => xs.flatMap (flatD 2)
  | _ => []
/-- a block's cells put anew -/
def putC (cs : List Value) : Obj → Obj
  | .cells _ t frozen => .cells cs.toArray t frozen
  | o => o
/-- the text behind an error -/
def errText : DataW Unit → ByteArray
  | .iface _ (.ptr (.agg [.lit (.string bs)])) => ⟨bs.toArray⟩
  | _ => ⟨#[]⟩
end Go.Proofs.YtfhfedcamcpceaaDoor
