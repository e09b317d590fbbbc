/-
  NARROWER THAN 'FOR EVERY INPUT', by the rows' own cells (each row's printed sentence says how): OpSays: laid · TopOp: laid · ScriptSays: laid · TopLine: laid.
  DERIVED. THE GIVEN ROWS OF THIS SEAT. 4 by the template 'for every input the law returns true; each argument reads behind the call as it read before'; 0 by the template 'total and deterministic' (their statements: YtfhfedcamcpceaaDoorTotals.lean).
  GIVEN WITH THE SEED: the statements are not yours to turn. If you find one false, say at which input.
  Laid BY PROGRAM, IN A SANDBOX (cutbox-rows.mjs): the forced cells as the released guide's own fill.sh prints them over the translation 34f02f743e8b59af… (all of the seat's roots in one cut). By AI agents, Wed Nov 11 2026. No macro, syntax, notation, axiom, sorry.
-/
import Derived.Test.YtfhfedcamcpceaaDoorChecked
import GoSem.PinnedTables
import GoSem.Claim
import GoSem.ClaimJoined
import GoSem.ClaimMapViews
import Derived.JoinedTies
import Derived.KernelRfl
namespace Go.Proofs.YtfhfedcamcpceaaDoor
/- THE CELL 'sum', in the pinned program and in every row, IS THE sha256 OF THE DUMP (.gsa) THAT YtfhfedcamcpceaaDoorProg.lean LOADS. Nothing in Lean hashes anything: it is a label: what it is worth is what the hold of that sum in a sandbox is worth. -/
noncomputable def Tryd.pinned : Pinned := { name := "ytfhfedcamcpceaadoor", sum := "34f02f743e8b59afd1fad44e2b9d3645cd1a754a9a3ec55a15a4db98bccd35fb", checked := Tryd.checked }
namespace Rows
def none {H : Type} : Left H := { results := [], args := [] }

/- WHAT THE LISTED PACKAGE-LEVEL VARIABLES READ AS WHEN THE CALL BEGINS. Each datum BY PROGRAM (the guide's laid-datum.mjs) off the statement by which the dump's own 'gosem.cut.vars' lays the variable. In a bare row this is a premise. The card (YtfhfedcamcpceaaDoorCards.lean) ties it to the program's text. -/
def laid_flickerbook_flickerbookref_names {H : Type} : DataW H := .slice [.lit (.string []), .lit (.string [72, 69, 65, 68]), .lit (.string [80, 73, 67, 84]), .lit (.string [77, 79, 86, 69]), .lit (.string [67, 76, 73, 80]), .lit (.string [83, 72, 79, 87]), .lit (.string [67, 79, 80, 89]), .lit (.string [68, 82, 79, 80]), .lit (.string [80, 65, 68, 68]), .lit (.string [80, 80, 85, 84]), .lit (.string [66, 65, 67, 75]), .lit (.string [87, 65, 73, 84]), .lit (.string [76, 79, 79, 80]), .lit (.string [78, 69, 88, 84]), .lit (.string [83, 65, 86, 69]), .lit (.string [83, 69, 69, 75]), .lit (.string [69, 78, 68, 83])] []
def laid_flickerbook_op_shapes {H : Type} : DataW H := .agg [.agg [.lit (.int .i64 1), .lit (.string [72, 69, 65, 68]), .lit (.bool false), .lit (.int .i64 2), .lit (.int .i64 1), .lit (.int .i64 8), .lit (.bool false)], .agg [.lit (.int .i64 2), .lit (.string [80, 73, 67, 84]), .lit (.bool true), .lit (.int .i64 0), .lit (.int .i64 0), .lit (.int .i64 0), .lit (.bool true)], .agg [.lit (.int .i64 3), .lit (.string [77, 79, 86, 69]), .lit (.bool true), .lit (.int .i64 2), .lit (.int .i64 (-20)), .lit (.int .i64 20), .lit (.bool false)], .agg [.lit (.int .i64 4), .lit (.string [67, 76, 73, 80]), .lit (.bool true), .lit (.int .i64 4), .lit (.int .i64 0), .lit (.int .i64 0), .lit (.bool false)], .agg [.lit (.int .i64 5), .lit (.string [83, 72, 79, 87]), .lit (.bool true), .lit (.int .i64 1), .lit (.int .i64 0), .lit (.int .i64 1), .lit (.bool false)], .agg [.lit (.int .i64 6), .lit (.string [67, 79, 80, 89]), .lit (.bool true), .lit (.int .i64 1), .lit (.int .i64 1), .lit (.int .i64 6), .lit (.bool false)], .agg [.lit (.int .i64 7), .lit (.string [68, 82, 79, 80]), .lit (.bool true), .lit (.int .i64 0), .lit (.int .i64 0), .lit (.int .i64 0), .lit (.bool false)], .agg [.lit (.int .i64 8), .lit (.string [80, 65, 68, 68]), .lit (.bool true), .lit (.int .i64 2), .lit (.int .i64 (-20)), .lit (.int .i64 20), .lit (.bool true)], .agg [.lit (.int .i64 9), .lit (.string [80, 80, 85, 84]), .lit (.bool true), .lit (.int .i64 2), .lit (.int .i64 (-20)), .lit (.int .i64 20), .lit (.bool true)], .agg [.lit (.int .i64 10), .lit (.string [66, 65, 67, 75]), .lit (.bool false), .lit (.int .i64 2), .lit (.int .i64 0), .lit (.int .i64 255), .lit (.bool false)], .agg [.lit (.int .i64 11), .lit (.string [87, 65, 73, 84]), .lit (.bool false), .lit (.int .i64 1), .lit (.int .i64 0), .lit (.int .i64 99), .lit (.bool false)], .agg [.lit (.int .i64 12), .lit (.string [76, 79, 79, 80]), .lit (.bool false), .lit (.int .i64 1), .lit (.int .i64 0), .lit (.int .i64 9), .lit (.bool false)], .agg [.lit (.int .i64 13), .lit (.string [78, 69, 88, 84]), .lit (.bool false), .lit (.int .i64 0), .lit (.int .i64 0), .lit (.int .i64 0), .lit (.bool false)], .agg [.lit (.int .i64 14), .lit (.string [83, 65, 86, 69]), .lit (.bool false), .lit (.int .i64 0), .lit (.int .i64 0), .lit (.int .i64 0), .lit (.bool false)], .agg [.lit (.int .i64 15), .lit (.string [83, 69, 69, 75]), .lit (.bool false), .lit (.int .i64 0), .lit (.int .i64 0), .lit (.int .i64 0), .lit (.bool false)], .agg [.lit (.int .i64 16), .lit (.string [69, 78, 68, 83]), .lit (.bool false), .lit (.int .i64 0), .lit (.int .i64 0), .lit (.int .i64 0), .lit (.bool false)]]
def laid_math_bits_deBruijn32tab {H : Type} : DataW H := .agg [.lit (.int .u8 0), .lit (.int .u8 1), .lit (.int .u8 28), .lit (.int .u8 2), .lit (.int .u8 29), .lit (.int .u8 14), .lit (.int .u8 24), .lit (.int .u8 3), .lit (.int .u8 30), .lit (.int .u8 22), .lit (.int .u8 20), .lit (.int .u8 15), .lit (.int .u8 25), .lit (.int .u8 17), .lit (.int .u8 4), .lit (.int .u8 8), .lit (.int .u8 31), .lit (.int .u8 27), .lit (.int .u8 13), .lit (.int .u8 23), .lit (.int .u8 21), .lit (.int .u8 19), .lit (.int .u8 16), .lit (.int .u8 7), .lit (.int .u8 26), .lit (.int .u8 12), .lit (.int .u8 18), .lit (.int .u8 6), .lit (.int .u8 11), .lit (.int .u8 5), .lit (.int .u8 10), .lit (.int .u8 9)]
def laid_math_bits_deBruijn64tab {H : Type} : DataW H := .agg [.lit (.int .u8 0), .lit (.int .u8 1), .lit (.int .u8 56), .lit (.int .u8 2), .lit (.int .u8 57), .lit (.int .u8 49), .lit (.int .u8 28), .lit (.int .u8 3), .lit (.int .u8 61), .lit (.int .u8 58), .lit (.int .u8 42), .lit (.int .u8 50), .lit (.int .u8 38), .lit (.int .u8 29), .lit (.int .u8 17), .lit (.int .u8 4), .lit (.int .u8 62), .lit (.int .u8 47), .lit (.int .u8 59), .lit (.int .u8 36), .lit (.int .u8 45), .lit (.int .u8 43), .lit (.int .u8 51), .lit (.int .u8 22), .lit (.int .u8 53), .lit (.int .u8 39), .lit (.int .u8 33), .lit (.int .u8 30), .lit (.int .u8 24), .lit (.int .u8 18), .lit (.int .u8 12), .lit (.int .u8 5), .lit (.int .u8 63), .lit (.int .u8 55), .lit (.int .u8 48), .lit (.int .u8 27), .lit (.int .u8 60), .lit (.int .u8 41), .lit (.int .u8 37), .lit (.int .u8 16), .lit (.int .u8 46), .lit (.int .u8 35), .lit (.int .u8 44), .lit (.int .u8 21), .lit (.int .u8 52), .lit (.int .u8 32), .lit (.int .u8 23), .lit (.int .u8 11), .lit (.int .u8 54), .lit (.int .u8 26), .lit (.int .u8 40), .lit (.int .u8 15), .lit (.int .u8 34), .lit (.int .u8 20), .lit (.int .u8 31), .lit (.int .u8 10), .lit (.int .u8 25), .lit (.int .u8 14), .lit (.int .u8 19), .lit (.int .u8 9), .lit (.int .u8 13), .lit (.int .u8 8), .lit (.int .u8 7), .lit (.int .u8 6)]
def laid_internal_strconv_uint64pow10 {H : Type} : DataW H := .agg [.lit (.int .u64 1), .lit (.int .u64 10), .lit (.int .u64 100), .lit (.int .u64 1000), .lit (.int .u64 10000), .lit (.int .u64 100000), .lit (.int .u64 1000000), .lit (.int .u64 10000000), .lit (.int .u64 100000000), .lit (.int .u64 1000000000), .lit (.int .u64 10000000000), .lit (.int .u64 100000000000), .lit (.int .u64 1000000000000), .lit (.int .u64 10000000000000), .lit (.int .u64 100000000000000), .lit (.int .u64 1000000000000000), .lit (.int .u64 10000000000000000), .lit (.int .u64 100000000000000000), .lit (.int .u64 1000000000000000000), .lit (.int .u64 10000000000000000000)]
def laid_unicode_utf8_acceptRanges {H : Type} : DataW H := .agg [.agg [.lit (.int .u8 128), .lit (.int .u8 191)], .agg [.lit (.int .u8 160), .lit (.int .u8 191)], .agg [.lit (.int .u8 128), .lit (.int .u8 159)], .agg [.lit (.int .u8 144), .lit (.int .u8 191)], .agg [.lit (.int .u8 128), .lit (.int .u8 143)], .agg [.lit (.int .u8 0), .lit (.int .u8 0)], .agg [.lit (.int .u8 0), .lit (.int .u8 0)], .agg [.lit (.int .u8 0), .lit (.int .u8 0)], .agg [.lit (.int .u8 0), .lit (.int .u8 0)], .agg [.lit (.int .u8 0), .lit (.int .u8 0)], .agg [.lit (.int .u8 0), .lit (.int .u8 0)], .agg [.lit (.int .u8 0), .lit (.int .u8 0)], .agg [.lit (.int .u8 0), .lit (.int .u8 0)], .agg [.lit (.int .u8 0), .lit (.int .u8 0)], .agg [.lit (.int .u8 0), .lit (.int .u8 0)], .agg [.lit (.int .u8 0), .lit (.int .u8 0)]]
def laid_strconv_ErrRange {H : Type} : DataW H := .iface "*errors.errorString" (.ptr (.agg [.lit (.string [118, 97, 108, 117, 101, 32, 111, 117, 116, 32, 111, 102, 32, 114, 97, 110, 103, 101])]))
def laid_strconv_ErrSyntax {H : Type} : DataW H := .iface "*errors.errorString" (.ptr (.agg [.lit (.string [105, 110, 118, 97, 108, 105, 100, 32, 115, 121, 110, 116, 97, 120])]))
def laid_flickerbook_flickerbookref_words {H : Type} : DataW H := .slice [.lit (.string []), .lit (.string [104, 101, 97, 100]), .lit (.string [112, 105, 99, 116]), .lit (.string [109, 111, 118, 101]), .lit (.string [99, 108, 105, 112]), .lit (.string [115, 104, 111, 119]), .lit (.string [99, 111, 112, 121]), .lit (.string [100, 114, 111, 112]), .lit (.string [97, 100, 100]), .lit (.string [112, 117, 116]), .lit (.string [98, 97, 99, 107]), .lit (.string [119, 97, 105, 116]), .lit (.string [108, 111, 111, 112]), .lit (.string [110, 101, 120, 116]), .lit (.string [115, 97, 118, 101]), .lit (.string [115, 101, 101, 107]), .lit (.string [101, 110, 100])] []
def laid_flickerbook_script_words {H : Type} : DataW H := .agg [.lit (.string [104, 101, 97, 100]), .lit (.string [112, 105, 99, 116]), .lit (.string [109, 111, 118, 101]), .lit (.string [99, 108, 105, 112]), .lit (.string [115, 104, 111, 119]), .lit (.string [99, 111, 112, 121]), .lit (.string [100, 114, 111, 112]), .lit (.string [97, 100, 100]), .lit (.string [112, 117, 116]), .lit (.string [98, 97, 99, 107]), .lit (.string [119, 97, 105, 116]), .lit (.string [108, 111, 111, 112]), .lit (.string [110, 101, 120, 116]), .lit (.string [115, 97, 118, 101]), .lit (.string [115, 101, 101, 107]), .lit (.string [101, 110, 100])]
/-- One of Go's own tables, pinned by name: the form's constant. -/
def laid_unicode_utf8_first : DataW Unit := Go.Pinned.utf8First

/-- 'flickerbooklaw.OpSays': WHATEVER THE INPUT: true; the input reads as it did. -/
def opSaysSpec : ChangeSpec := { name := "opSays", fn := fun _ => fun
  | [d1, d2, d3] => { results := [.lit (.bool true)], args := [d1, d2, d3] }
  | _ => none }
def opSaysRow : OpenClaim := { program := "ytfhfedcamcpceaadoor", sum := "34f02f743e8b59afd1fad44e2b9d3645cd1a754a9a3ec55a15a4db98bccd35fb", func := "flickerbook/flickerbooklaw.OpSays", spec := "opSays", unfollowed := true, recurses := true, named := ["flickerbook/op.shapes", "flickerbook/flickerbookref.names"], apart := false, laid := [("flickerbook/flickerbookref.names", laid_flickerbook_flickerbookref_names), ("flickerbook/op.shapes", laid_flickerbook_op_shapes)] }
def OpSaysSaid : Prop := opSaysRow.holds Tryd.pinned (OpenSpec.ofChange opSaysSpec)

/-- ITS FALSE NEIGHBOUR: 'it returns false'. Refute it at one input. -/
def opSaysWrong : ChangeSpec := { name := "opSays", fn := fun _ => fun
  | [d1, d2, d3] => { results := [.lit (.bool false)], args := [d1, d2, d3] }
  | _ => none }
def OpSaysWrongFalsely : Prop := opSaysRow.holds Tryd.pinned (OpenSpec.ofChange opSaysWrong)

/-- 'flickerbooktop.TopOp': WHATEVER THE INPUT: true; the input reads as it did. -/
def topOpSpec : ChangeSpec := { name := "topOp", fn := fun _ => fun
  | [d] => { results := [.lit (.bool true)], args := [d] }
  | _ => none }
def topOpRow : OpenClaim := { program := "ytfhfedcamcpceaadoor", sum := "34f02f743e8b59afd1fad44e2b9d3645cd1a754a9a3ec55a15a4db98bccd35fb", func := "flickerbook/flickerbooktop.TopOp", spec := "topOp", unfollowed := true, recurses := true, named := ["flickerbook/op.shapes"], apart := false, laid := [("flickerbook/op.shapes", laid_flickerbook_op_shapes)] }
def TopOpSaid : Prop := topOpRow.holds Tryd.pinned (OpenSpec.ofChange topOpSpec)

/-- ITS FALSE NEIGHBOUR: 'it returns false'. Refute it at one input. -/
def topOpWrong : ChangeSpec := { name := "topOp", fn := fun _ => fun
  | [d] => { results := [.lit (.bool false)], args := [d] }
  | _ => none }
def TopOpWrongFalsely : Prop := topOpRow.holds Tryd.pinned (OpenSpec.ofChange topOpWrong)

/-- 'flickerbooklaw.ScriptSays': WHATEVER THE INPUT: true; the input reads as it did. -/
def scriptSaysSpec : ChangeSpec := { name := "scriptSays", fn := fun _ => fun
  | [d1, d2] => { results := [.lit (.bool true)], args := [d1, d2] }
  | _ => none }
def scriptSaysRow : OpenClaim := { program := "ytfhfedcamcpceaadoor", sum := "34f02f743e8b59afd1fad44e2b9d3645cd1a754a9a3ec55a15a4db98bccd35fb", func := "flickerbook/flickerbooklaw.ScriptSays", spec := "scriptSays", inPlace := ["internal/bytealg.CountString", "internal/bytealg.IndexByteString", "internal/bytealg.IndexString", "internal/abi.NoEscape", "internal/bytealg.MakeNoZero"], unfollowed := true, recurses := true, named := ["unicode/utf8.first", "unicode/utf8.acceptRanges", "internal/bytealg.MaxLen", "flickerbook/script.words", "strconv.ErrSyntax", "strconv.ErrRange", "internal/strconv.uint64pow10", "math/bits.deBruijn32tab", "math/bits.deBruijn64tab", "flickerbook/op.shapes", "flickerbook/flickerbookref.words"], apart := false, laid := [("math/bits.deBruijn32tab", laid_math_bits_deBruijn32tab), ("math/bits.deBruijn64tab", laid_math_bits_deBruijn64tab), ("internal/strconv.uint64pow10", laid_internal_strconv_uint64pow10), ("unicode/utf8.acceptRanges", laid_unicode_utf8_acceptRanges), ("strconv.ErrRange", laid_strconv_ErrRange), ("strconv.ErrSyntax", laid_strconv_ErrSyntax), ("flickerbook/flickerbookref.words", laid_flickerbook_flickerbookref_words), ("flickerbook/op.shapes", laid_flickerbook_op_shapes), ("flickerbook/script.words", laid_flickerbook_script_words), ("unicode/utf8.first", laid_unicode_utf8_first)] }
def ScriptSaysSaid : Prop := scriptSaysRow.holds Tryd.pinned (OpenSpec.ofChange scriptSaysSpec)

/-- ITS FALSE NEIGHBOUR: 'it returns false'. Refute it at one input. -/
def scriptSaysWrong : ChangeSpec := { name := "scriptSays", fn := fun _ => fun
  | [d1, d2] => { results := [.lit (.bool false)], args := [d1, d2] }
  | _ => none }
def ScriptSaysWrongFalsely : Prop := scriptSaysRow.holds Tryd.pinned (OpenSpec.ofChange scriptSaysWrong)

/-- 'flickerbooktop.TopLine': WHATEVER THE INPUT: true; the input reads as it did. -/
def topLineSpec : ChangeSpec := { name := "topLine", fn := fun _ => fun
  | [d] => { results := [.lit (.bool true)], args := [d] }
  | _ => none }
def topLineRow : OpenClaim := { program := "ytfhfedcamcpceaadoor", sum := "34f02f743e8b59afd1fad44e2b9d3645cd1a754a9a3ec55a15a4db98bccd35fb", func := "flickerbook/flickerbooktop.TopLine", spec := "topLine", inPlace := ["internal/abi.NoEscape", "internal/bytealg.MakeNoZero", "internal/bytealg.CountString", "internal/bytealg.IndexByteString", "internal/bytealg.IndexString"], unfollowed := true, recurses := true, named := ["flickerbook/script.words", "flickerbook/op.shapes", "internal/strconv.uint64pow10", "math/bits.deBruijn32tab", "math/bits.deBruijn64tab", "unicode/utf8.first", "unicode/utf8.acceptRanges", "internal/bytealg.MaxLen", "strconv.ErrSyntax", "strconv.ErrRange"], apart := false, laid := [("math/bits.deBruijn32tab", laid_math_bits_deBruijn32tab), ("math/bits.deBruijn64tab", laid_math_bits_deBruijn64tab), ("internal/strconv.uint64pow10", laid_internal_strconv_uint64pow10), ("unicode/utf8.acceptRanges", laid_unicode_utf8_acceptRanges), ("strconv.ErrRange", laid_strconv_ErrRange), ("strconv.ErrSyntax", laid_strconv_ErrSyntax), ("flickerbook/op.shapes", laid_flickerbook_op_shapes), ("flickerbook/script.words", laid_flickerbook_script_words), ("unicode/utf8.first", laid_unicode_utf8_first)] }
def TopLineSaid : Prop := topLineRow.holds Tryd.pinned (OpenSpec.ofChange topLineSpec)

/-- ITS FALSE NEIGHBOUR: 'it returns false'. Refute it at one input. -/
def topLineWrong : ChangeSpec := { name := "topLine", fn := fun _ => fun
  | [d] => { results := [.lit (.bool false)], args := [d] }
  | _ => none }
def TopLineWrongFalsely : Prop := topLineRow.holds Tryd.pinned (OpenSpec.ofChange topLineWrong)

/- THE SECOND FORM. 'bulk': how many values and letters a reading holds, each counted each time it is reached (what is shared counts as often as it is met; a slice's spare places count too). A statement '..UptoSaid' is the law's where the arguments, and the package variables that the reading takes, are together of bulk at most 1048576: NARROWER than '..Said'. Prove '..Said' where nothing that the law and all that it calls make is longer than what came in: it says more and counts as full. Else prove '..UptoSaid'. A law counts once. -/
mutual
def uptoBulk {H : Type} : DataW H → Nat
  | .lit (.string bytes) => bytes.length + 1
  | .lit _ => 1
  | .nil => 1
  | .ptr d => uptoBulk d + 1
  | .slice elems spare => uptoBulkAll elems + uptoBulkAll spare + 1
  | .agg parts => uptoBulkAll parts + 1
  | .iface _ d => uptoBulk d + 1
  | .map entries => uptoBulkEntries entries + 1
  | .held _ => 1
def uptoBulkAll {H : Type} : List (DataW H) → Nat
  | [] => 0
  | d :: r => uptoBulk d + uptoBulkAll r
def uptoBulkEntries {H : Type} : List (Lit × DataW H) → Nat
  | [] => 0
  | x :: r => uptoBulkEntry x + uptoBulkEntries r
def uptoBulkEntry {H : Type} : Lit × DataW H → Nat
  | (.string bytes, d) => bytes.length + uptoBulk d + 1
  | (_, d) => uptoBulk d + 1
 end
def uptoSmall : (H : Type) → List (DataW H) → Bool := fun _ ds => decide (uptoBulkAll ds ≤ 1048576)
def OpenSpec.upto (s : _root_.Go.ChangeSpec) : _root_.Go.OpenSpec := { _root_.Go.OpenSpec.ofChange s with cond := some uptoSmall }

/-- 'flickerbooklaw.OpSays', WHERE WHAT IT READS IS OF BULK AT MOST 1048576: true; the input reads as it did. -/
def opSaysUptoRow : OpenClaim := { program := "ytfhfedcamcpceaadoor", sum := "34f02f743e8b59afd1fad44e2b9d3645cd1a754a9a3ec55a15a4db98bccd35fb", func := "flickerbook/flickerbooklaw.OpSays", spec := "opSays", unfollowed := true, recurses := true, named := ["flickerbook/op.shapes", "flickerbook/flickerbookref.names"], apart := false, laid := [("flickerbook/flickerbookref.names", laid_flickerbook_flickerbookref_names), ("flickerbook/op.shapes", laid_flickerbook_op_shapes)], narrowed := true }
def OpSaysUptoSaid : Prop := opSaysUptoRow.holds Tryd.pinned (OpenSpec.upto opSaysSpec)

/-- 'flickerbooktop.TopOp', WHERE WHAT IT READS IS OF BULK AT MOST 1048576: true; the input reads as it did. -/
def topOpUptoRow : OpenClaim := { program := "ytfhfedcamcpceaadoor", sum := "34f02f743e8b59afd1fad44e2b9d3645cd1a754a9a3ec55a15a4db98bccd35fb", func := "flickerbook/flickerbooktop.TopOp", spec := "topOp", unfollowed := true, recurses := true, named := ["flickerbook/op.shapes"], apart := false, laid := [("flickerbook/op.shapes", laid_flickerbook_op_shapes)], narrowed := true }
def TopOpUptoSaid : Prop := topOpUptoRow.holds Tryd.pinned (OpenSpec.upto topOpSpec)

/-- 'flickerbooklaw.ScriptSays', WHERE WHAT IT READS IS OF BULK AT MOST 1048576: true; the input reads as it did. -/
def scriptSaysUptoRow : OpenClaim := { program := "ytfhfedcamcpceaadoor", sum := "34f02f743e8b59afd1fad44e2b9d3645cd1a754a9a3ec55a15a4db98bccd35fb", func := "flickerbook/flickerbooklaw.ScriptSays", spec := "scriptSays", inPlace := ["internal/bytealg.CountString", "internal/bytealg.IndexByteString", "internal/bytealg.IndexString", "internal/abi.NoEscape", "internal/bytealg.MakeNoZero"], unfollowed := true, recurses := true, named := ["unicode/utf8.first", "unicode/utf8.acceptRanges", "internal/bytealg.MaxLen", "flickerbook/script.words", "strconv.ErrSyntax", "strconv.ErrRange", "internal/strconv.uint64pow10", "math/bits.deBruijn32tab", "math/bits.deBruijn64tab", "flickerbook/op.shapes", "flickerbook/flickerbookref.words"], apart := false, laid := [("math/bits.deBruijn32tab", laid_math_bits_deBruijn32tab), ("math/bits.deBruijn64tab", laid_math_bits_deBruijn64tab), ("internal/strconv.uint64pow10", laid_internal_strconv_uint64pow10), ("unicode/utf8.acceptRanges", laid_unicode_utf8_acceptRanges), ("strconv.ErrRange", laid_strconv_ErrRange), ("strconv.ErrSyntax", laid_strconv_ErrSyntax), ("flickerbook/flickerbookref.words", laid_flickerbook_flickerbookref_words), ("flickerbook/op.shapes", laid_flickerbook_op_shapes), ("flickerbook/script.words", laid_flickerbook_script_words), ("unicode/utf8.first", laid_unicode_utf8_first)], narrowed := true }
def ScriptSaysUptoSaid : Prop := scriptSaysUptoRow.holds Tryd.pinned (OpenSpec.upto scriptSaysSpec)

/-- 'flickerbooktop.TopLine', WHERE WHAT IT READS IS OF BULK AT MOST 1048576: true; the input reads as it did. -/
def topLineUptoRow : OpenClaim := { program := "ytfhfedcamcpceaadoor", sum := "34f02f743e8b59afd1fad44e2b9d3645cd1a754a9a3ec55a15a4db98bccd35fb", func := "flickerbook/flickerbooktop.TopLine", spec := "topLine", inPlace := ["internal/abi.NoEscape", "internal/bytealg.MakeNoZero", "internal/bytealg.CountString", "internal/bytealg.IndexByteString", "internal/bytealg.IndexString"], unfollowed := true, recurses := true, named := ["flickerbook/script.words", "flickerbook/op.shapes", "internal/strconv.uint64pow10", "math/bits.deBruijn32tab", "math/bits.deBruijn64tab", "unicode/utf8.first", "unicode/utf8.acceptRanges", "internal/bytealg.MaxLen", "strconv.ErrSyntax", "strconv.ErrRange"], apart := false, laid := [("math/bits.deBruijn32tab", laid_math_bits_deBruijn32tab), ("math/bits.deBruijn64tab", laid_math_bits_deBruijn64tab), ("internal/strconv.uint64pow10", laid_internal_strconv_uint64pow10), ("unicode/utf8.acceptRanges", laid_unicode_utf8_acceptRanges), ("strconv.ErrRange", laid_strconv_ErrRange), ("strconv.ErrSyntax", laid_strconv_ErrSyntax), ("flickerbook/op.shapes", laid_flickerbook_op_shapes), ("flickerbook/script.words", laid_flickerbook_script_words), ("unicode/utf8.first", laid_unicode_utf8_first)], narrowed := true }
def TopLineUptoSaid : Prop := topLineUptoRow.holds Tryd.pinned (OpenSpec.upto topLineSpec)

end Rows
end Go.Proofs.YtfhfedcamcpceaaDoor
