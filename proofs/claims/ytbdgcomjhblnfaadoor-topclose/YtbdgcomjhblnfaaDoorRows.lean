/-
  NARROWER THAN 'FOR EVERY INPUT', by the rows' own cells (each row's printed sentence says how): TopFuel: laid · TopLoop: laid · TopKept: laid · TopFrames: laid · TopStill: laid · TopAway: laid · TopMove: laid · TopClose: laid · TopBack: laid · TopNest: laid.
  DERIVED. THE GIVEN ROWS OF THIS SEAT. 10 by the template 'for every input the law returns true; each argument reads behind the call as it read before'; 0 by the template 'total and deterministic' (their statements: YtbdgcomjhblnfaaDoorTotals.lean).
  GIVEN WITH THE SEED: the statements are not yours to turn. If you find one false, say at which input.
  Laid BY PROGRAM, IN A SANDBOX (cutbox-rows.mjs): the forced cells as the released guide's own fill.sh prints them over the translation 1b2182e4f0e457a7… (all of the seat's roots in one cut). By AI agents, Wed Nov 11 2026. No macro, syntax, notation, axiom, sorry.
-/
import Derived.Test.YtbdgcomjhblnfaaDoorChecked
import GoSem.Claim
import GoSem.ClaimJoined
import GoSem.ClaimMapViews
import Derived.JoinedTies
import Derived.KernelRfl
namespace Go.Proofs.YtbdgcomjhblnfaaDoor
/- THE CELL 'sum', in the pinned program and in every row, IS THE sha256 OF THE DUMP (.gsa) THAT YtbdgcomjhblnfaaDoorProg.lean LOADS. Nothing in Lean hashes anything: it is a label: what it is worth is what the hold of that sum in a sandbox is worth. -/
noncomputable def Tryd.pinned : Pinned := { name := "ytbdgcomjhblnfaadoor", sum := "1b2182e4f0e457a79fbebb479432d769127bda004664185aab259d5d741e740a", checked := Tryd.checked }
namespace Rows
def none {H : Type} : Left H := { results := [], args := [] }

/- WHAT THE LISTED PACKAGE-LEVEL VARIABLES READ AS WHEN THE CALL BEGINS. Each datum BY PROGRAM (the guide's laid-datum.mjs) off the statement by which the dump's own 'gosem.cut.vars' lays the variable. In a bare row this is a premise. The card (YtbdgcomjhblnfaaDoorCards.lean) ties it to the program's text. -/
def laid_flickerbook_op_shapes {H : Type} : DataW H := .agg [.agg [.lit (.int .i64 1), .lit (.string [72, 69, 65, 68]), .lit (.bool false), .lit (.int .i64 2), .lit (.int .i64 1), .lit (.int .i64 8), .lit (.bool false)], .agg [.lit (.int .i64 2), .lit (.string [80, 73, 67, 84]), .lit (.bool true), .lit (.int .i64 0), .lit (.int .i64 0), .lit (.int .i64 0), .lit (.bool true)], .agg [.lit (.int .i64 3), .lit (.string [77, 79, 86, 69]), .lit (.bool true), .lit (.int .i64 2), .lit (.int .i64 (-20)), .lit (.int .i64 20), .lit (.bool false)], .agg [.lit (.int .i64 4), .lit (.string [67, 76, 73, 80]), .lit (.bool true), .lit (.int .i64 4), .lit (.int .i64 0), .lit (.int .i64 0), .lit (.bool false)], .agg [.lit (.int .i64 5), .lit (.string [83, 72, 79, 87]), .lit (.bool true), .lit (.int .i64 1), .lit (.int .i64 0), .lit (.int .i64 1), .lit (.bool false)], .agg [.lit (.int .i64 6), .lit (.string [67, 79, 80, 89]), .lit (.bool true), .lit (.int .i64 1), .lit (.int .i64 1), .lit (.int .i64 6), .lit (.bool false)], .agg [.lit (.int .i64 7), .lit (.string [68, 82, 79, 80]), .lit (.bool true), .lit (.int .i64 0), .lit (.int .i64 0), .lit (.int .i64 0), .lit (.bool false)], .agg [.lit (.int .i64 8), .lit (.string [80, 65, 68, 68]), .lit (.bool true), .lit (.int .i64 2), .lit (.int .i64 (-20)), .lit (.int .i64 20), .lit (.bool true)], .agg [.lit (.int .i64 9), .lit (.string [80, 80, 85, 84]), .lit (.bool true), .lit (.int .i64 2), .lit (.int .i64 (-20)), .lit (.int .i64 20), .lit (.bool true)], .agg [.lit (.int .i64 10), .lit (.string [66, 65, 67, 75]), .lit (.bool false), .lit (.int .i64 2), .lit (.int .i64 0), .lit (.int .i64 255), .lit (.bool false)], .agg [.lit (.int .i64 11), .lit (.string [87, 65, 73, 84]), .lit (.bool false), .lit (.int .i64 1), .lit (.int .i64 0), .lit (.int .i64 99), .lit (.bool false)], .agg [.lit (.int .i64 12), .lit (.string [76, 79, 79, 80]), .lit (.bool false), .lit (.int .i64 1), .lit (.int .i64 0), .lit (.int .i64 9), .lit (.bool false)], .agg [.lit (.int .i64 13), .lit (.string [78, 69, 88, 84]), .lit (.bool false), .lit (.int .i64 0), .lit (.int .i64 0), .lit (.int .i64 0), .lit (.bool false)], .agg [.lit (.int .i64 14), .lit (.string [83, 65, 86, 69]), .lit (.bool false), .lit (.int .i64 0), .lit (.int .i64 0), .lit (.int .i64 0), .lit (.bool false)], .agg [.lit (.int .i64 15), .lit (.string [83, 69, 69, 75]), .lit (.bool false), .lit (.int .i64 0), .lit (.int .i64 0), .lit (.int .i64 0), .lit (.bool false)], .agg [.lit (.int .i64 16), .lit (.string [69, 78, 68, 83]), .lit (.bool false), .lit (.int .i64 0), .lit (.int .i64 0), .lit (.int .i64 0), .lit (.bool false)]]

/-- 'flickerbooktop.TopFuel': WHATEVER THE INPUT: true; the input reads as it did. -/
def topFuelSpec : ChangeSpec := { name := "topFuel", fn := fun _ => fun
  | [d1, d2, d3] => { results := [.lit (.bool true)], args := [d1, d2, d3] }
  | _ => none }
def topFuelRow : OpenClaim := { program := "ytbdgcomjhblnfaadoor", sum := "1b2182e4f0e457a79fbebb479432d769127bda004664185aab259d5d741e740a", func := "flickerbook/flickerbooktop.TopFuel", spec := "topFuel", inPlace := ["slices.overlaps[flickerbook/api.Object]"], unfollowed := true, recurses := true, named := ["flickerbook/op.shapes"], apart := false, laid := [("flickerbook/op.shapes", laid_flickerbook_op_shapes)] }
def TopFuelSaid : Prop := topFuelRow.holds Tryd.pinned (OpenSpec.ofChange topFuelSpec)

/-- ITS FALSE NEIGHBOUR: 'it returns false'. Refute it at one input. -/
def topFuelWrong : ChangeSpec := { name := "topFuel", fn := fun _ => fun
  | [d1, d2, d3] => { results := [.lit (.bool false)], args := [d1, d2, d3] }
  | _ => none }
def TopFuelWrongFalsely : Prop := topFuelRow.holds Tryd.pinned (OpenSpec.ofChange topFuelWrong)

/-- 'flickerbooktop.TopLoop': WHATEVER THE INPUT: true; the input reads as it did. -/
def topLoopSpec : ChangeSpec := { name := "topLoop", fn := fun _ => fun
  | [d1, d2, d3, d4] => { results := [.lit (.bool true)], args := [d1, d2, d3, d4] }
  | _ => none }
def topLoopRow : OpenClaim := { program := "ytbdgcomjhblnfaadoor", sum := "1b2182e4f0e457a79fbebb479432d769127bda004664185aab259d5d741e740a", func := "flickerbook/flickerbooktop.TopLoop", spec := "topLoop", inPlace := ["slices.overlaps[flickerbook/api.Object]"], unfollowed := true, recurses := true, named := ["flickerbook/op.shapes"], apart := false, laid := [("flickerbook/op.shapes", laid_flickerbook_op_shapes)] }
def TopLoopSaid : Prop := topLoopRow.holds Tryd.pinned (OpenSpec.ofChange topLoopSpec)

/-- ITS FALSE NEIGHBOUR: 'it returns false'. Refute it at one input. -/
def topLoopWrong : ChangeSpec := { name := "topLoop", fn := fun _ => fun
  | [d1, d2, d3, d4] => { results := [.lit (.bool false)], args := [d1, d2, d3, d4] }
  | _ => none }
def TopLoopWrongFalsely : Prop := topLoopRow.holds Tryd.pinned (OpenSpec.ofChange topLoopWrong)

/-- 'flickerbooktop.TopKept': WHATEVER THE INPUT: true; the input reads as it did. -/
def topKeptSpec : ChangeSpec := { name := "topKept", fn := fun _ => fun
  | [d1, d2] => { results := [.lit (.bool true)], args := [d1, d2] }
  | _ => none }
def topKeptRow : OpenClaim := { program := "ytbdgcomjhblnfaadoor", sum := "1b2182e4f0e457a79fbebb479432d769127bda004664185aab259d5d741e740a", func := "flickerbook/flickerbooktop.TopKept", spec := "topKept", inPlace := ["slices.overlaps[flickerbook/api.Object]"], unfollowed := true, recurses := true, named := ["flickerbook/op.shapes"], apart := false, laid := [("flickerbook/op.shapes", laid_flickerbook_op_shapes)] }
def TopKeptSaid : Prop := topKeptRow.holds Tryd.pinned (OpenSpec.ofChange topKeptSpec)

/-- ITS FALSE NEIGHBOUR: 'it returns false'. Refute it at one input. -/
def topKeptWrong : ChangeSpec := { name := "topKept", fn := fun _ => fun
  | [d1, d2] => { results := [.lit (.bool false)], args := [d1, d2] }
  | _ => none }
def TopKeptWrongFalsely : Prop := topKeptRow.holds Tryd.pinned (OpenSpec.ofChange topKeptWrong)

/-- 'flickerbooktop.TopFrames': WHATEVER THE INPUT: true; the input reads as it did. -/
def topFramesSpec : ChangeSpec := { name := "topFrames", fn := fun _ => fun
  | [d] => { results := [.lit (.bool true)], args := [d] }
  | _ => none }
def topFramesRow : OpenClaim := { program := "ytbdgcomjhblnfaadoor", sum := "1b2182e4f0e457a79fbebb479432d769127bda004664185aab259d5d741e740a", func := "flickerbook/flickerbooktop.TopFrames", spec := "topFrames", inPlace := ["slices.overlaps[flickerbook/api.Object]"], unfollowed := true, recurses := true, named := ["flickerbook/op.shapes"], apart := false, laid := [("flickerbook/op.shapes", laid_flickerbook_op_shapes)] }
def TopFramesSaid : Prop := topFramesRow.holds Tryd.pinned (OpenSpec.ofChange topFramesSpec)

/-- ITS FALSE NEIGHBOUR: 'it returns false'. Refute it at one input. -/
def topFramesWrong : ChangeSpec := { name := "topFrames", fn := fun _ => fun
  | [d] => { results := [.lit (.bool false)], args := [d] }
  | _ => none }
def TopFramesWrongFalsely : Prop := topFramesRow.holds Tryd.pinned (OpenSpec.ofChange topFramesWrong)

/-- 'flickerbooktop.TopStill': WHATEVER THE INPUT: true; the input reads as it did. -/
def topStillSpec : ChangeSpec := { name := "topStill", fn := fun _ => fun
  | [d1, d2, d3] => { results := [.lit (.bool true)], args := [d1, d2, d3] }
  | _ => none }
def topStillRow : OpenClaim := { program := "ytbdgcomjhblnfaadoor", sum := "1b2182e4f0e457a79fbebb479432d769127bda004664185aab259d5d741e740a", func := "flickerbook/flickerbooktop.TopStill", spec := "topStill", inPlace := ["slices.overlaps[flickerbook/api.Object]"], unfollowed := true, recurses := true, named := ["flickerbook/op.shapes"], apart := false, laid := [("flickerbook/op.shapes", laid_flickerbook_op_shapes)] }
def TopStillSaid : Prop := topStillRow.holds Tryd.pinned (OpenSpec.ofChange topStillSpec)

/-- ITS FALSE NEIGHBOUR: 'it returns false'. Refute it at one input. -/
def topStillWrong : ChangeSpec := { name := "topStill", fn := fun _ => fun
  | [d1, d2, d3] => { results := [.lit (.bool false)], args := [d1, d2, d3] }
  | _ => none }
def TopStillWrongFalsely : Prop := topStillRow.holds Tryd.pinned (OpenSpec.ofChange topStillWrong)

/-- 'flickerbooktop.TopAway': WHATEVER THE INPUT: true; the input reads as it did. -/
def topAwaySpec : ChangeSpec := { name := "topAway", fn := fun _ => fun
  | [d1, d2] => { results := [.lit (.bool true)], args := [d1, d2] }
  | _ => none }
def topAwayRow : OpenClaim := { program := "ytbdgcomjhblnfaadoor", sum := "1b2182e4f0e457a79fbebb479432d769127bda004664185aab259d5d741e740a", func := "flickerbook/flickerbooktop.TopAway", spec := "topAway", inPlace := ["slices.overlaps[flickerbook/api.Object]"], unfollowed := true, recurses := true, named := ["flickerbook/op.shapes"], apart := false, laid := [("flickerbook/op.shapes", laid_flickerbook_op_shapes)] }
def TopAwaySaid : Prop := topAwayRow.holds Tryd.pinned (OpenSpec.ofChange topAwaySpec)

/-- ITS FALSE NEIGHBOUR: 'it returns false'. Refute it at one input. -/
def topAwayWrong : ChangeSpec := { name := "topAway", fn := fun _ => fun
  | [d1, d2] => { results := [.lit (.bool false)], args := [d1, d2] }
  | _ => none }
def TopAwayWrongFalsely : Prop := topAwayRow.holds Tryd.pinned (OpenSpec.ofChange topAwayWrong)

/-- 'flickerbooktop.TopMove': WHATEVER THE INPUT: true; the input reads as it did. -/
def topMoveSpec : ChangeSpec := { name := "topMove", fn := fun _ => fun
  | [d1, d2, d3, d4] => { results := [.lit (.bool true)], args := [d1, d2, d3, d4] }
  | _ => none }
def topMoveRow : OpenClaim := { program := "ytbdgcomjhblnfaadoor", sum := "1b2182e4f0e457a79fbebb479432d769127bda004664185aab259d5d741e740a", func := "flickerbook/flickerbooktop.TopMove", spec := "topMove", inPlace := ["slices.overlaps[flickerbook/api.Object]"], unfollowed := true, recurses := true, named := ["flickerbook/op.shapes"], apart := false, laid := [("flickerbook/op.shapes", laid_flickerbook_op_shapes)] }
def TopMoveSaid : Prop := topMoveRow.holds Tryd.pinned (OpenSpec.ofChange topMoveSpec)

/-- ITS FALSE NEIGHBOUR: 'it returns false'. Refute it at one input. -/
def topMoveWrong : ChangeSpec := { name := "topMove", fn := fun _ => fun
  | [d1, d2, d3, d4] => { results := [.lit (.bool false)], args := [d1, d2, d3, d4] }
  | _ => none }
def TopMoveWrongFalsely : Prop := topMoveRow.holds Tryd.pinned (OpenSpec.ofChange topMoveWrong)

/-- 'flickerbooktop.TopClose': WHATEVER THE INPUT: true; the input reads as it did. -/
def topCloseSpec : ChangeSpec := { name := "topClose", fn := fun _ => fun
  | [d] => { results := [.lit (.bool true)], args := [d] }
  | _ => none }
def topCloseRow : OpenClaim := { program := "ytbdgcomjhblnfaadoor", sum := "1b2182e4f0e457a79fbebb479432d769127bda004664185aab259d5d741e740a", func := "flickerbook/flickerbooktop.TopClose", spec := "topClose", inPlace := ["slices.overlaps[flickerbook/api.Object]"], unfollowed := true, recurses := true, named := ["flickerbook/op.shapes"], apart := false, laid := [("flickerbook/op.shapes", laid_flickerbook_op_shapes)] }
def TopCloseSaid : Prop := topCloseRow.holds Tryd.pinned (OpenSpec.ofChange topCloseSpec)

/-- ITS FALSE NEIGHBOUR: 'it returns false'. Refute it at one input. -/
def topCloseWrong : ChangeSpec := { name := "topClose", fn := fun _ => fun
  | [d] => { results := [.lit (.bool false)], args := [d] }
  | _ => none }
def TopCloseWrongFalsely : Prop := topCloseRow.holds Tryd.pinned (OpenSpec.ofChange topCloseWrong)

/-- 'flickerbooktop.TopBack': WHATEVER THE INPUT: true; the input reads as it did. -/
def topBackSpec : ChangeSpec := { name := "topBack", fn := fun _ => fun
  | [d1, d2, d3] => { results := [.lit (.bool true)], args := [d1, d2, d3] }
  | _ => none }
def topBackRow : OpenClaim := { program := "ytbdgcomjhblnfaadoor", sum := "1b2182e4f0e457a79fbebb479432d769127bda004664185aab259d5d741e740a", func := "flickerbook/flickerbooktop.TopBack", spec := "topBack", inPlace := ["slices.overlaps[flickerbook/api.Object]"], unfollowed := true, recurses := true, named := ["flickerbook/op.shapes"], apart := false, laid := [("flickerbook/op.shapes", laid_flickerbook_op_shapes)] }
def TopBackSaid : Prop := topBackRow.holds Tryd.pinned (OpenSpec.ofChange topBackSpec)

/-- ITS FALSE NEIGHBOUR: 'it returns false'. Refute it at one input. -/
def topBackWrong : ChangeSpec := { name := "topBack", fn := fun _ => fun
  | [d1, d2, d3] => { results := [.lit (.bool false)], args := [d1, d2, d3] }
  | _ => none }
def TopBackWrongFalsely : Prop := topBackRow.holds Tryd.pinned (OpenSpec.ofChange topBackWrong)

/-- 'flickerbooktop.TopNest': WHATEVER THE INPUT: true; the input reads as it did. -/
def topNestSpec : ChangeSpec := { name := "topNest", fn := fun _ => fun
  | [d1, d2, d3] => { results := [.lit (.bool true)], args := [d1, d2, d3] }
  | _ => none }
def topNestRow : OpenClaim := { program := "ytbdgcomjhblnfaadoor", sum := "1b2182e4f0e457a79fbebb479432d769127bda004664185aab259d5d741e740a", func := "flickerbook/flickerbooktop.TopNest", spec := "topNest", inPlace := ["slices.overlaps[flickerbook/api.Object]"], unfollowed := true, recurses := true, named := ["flickerbook/op.shapes"], apart := false, laid := [("flickerbook/op.shapes", laid_flickerbook_op_shapes)] }
def TopNestSaid : Prop := topNestRow.holds Tryd.pinned (OpenSpec.ofChange topNestSpec)

/-- ITS FALSE NEIGHBOUR: 'it returns false'. Refute it at one input. -/
def topNestWrong : ChangeSpec := { name := "topNest", fn := fun _ => fun
  | [d1, d2, d3] => { results := [.lit (.bool false)], args := [d1, d2, d3] }
  | _ => none }
def TopNestWrongFalsely : Prop := topNestRow.holds Tryd.pinned (OpenSpec.ofChange topNestWrong)

/- THE SECOND FORM. 'bulk': how many values and letters a reading holds, each counted each time it is reached (what is shared counts as often as it is met; a slice's spare places count too). A statement '..UptoSaid' is the law's where the arguments, and the package variables that the reading takes, are together of bulk at most 1048576: NARROWER than '..Said'. Prove '..Said' where nothing that the law and all that it calls make is longer than what came in: it says more and counts as full. Else prove '..UptoSaid'. A law counts once. -/
mutual
def uptoBulk {H : Type} : DataW H → Nat
  | .lit (.string bytes) => bytes.length + 1
  | .lit _ => 1
  | .nil => 1
  | .ptr d => uptoBulk d + 1
  | .slice elems spare => uptoBulkAll elems + uptoBulkAll spare + 1
  | .agg parts => uptoBulkAll parts + 1
  | .iface _ d => uptoBulk d + 1
  | .map entries => uptoBulkEntries entries + 1
  | .held _ => 1
def uptoBulkAll {H : Type} : List (DataW H) → Nat
  | [] => 0
  | d :: r => uptoBulk d + uptoBulkAll r
def uptoBulkEntries {H : Type} : List (Lit × DataW H) → Nat
  | [] => 0
  | x :: r => uptoBulkEntry x + uptoBulkEntries r
def uptoBulkEntry {H : Type} : Lit × DataW H → Nat
  | (.string bytes, d) => bytes.length + uptoBulk d + 1
  | (_, d) => uptoBulk d + 1
 end
def uptoSmall : (H : Type) → List (DataW H) → Bool := fun _ ds => decide (uptoBulkAll ds ≤ 1048576)
def OpenSpec.upto (s : _root_.Go.ChangeSpec) : _root_.Go.OpenSpec := { _root_.Go.OpenSpec.ofChange s with cond := some uptoSmall }

/-- 'flickerbooktop.TopFuel', WHERE WHAT IT READS IS OF BULK AT MOST 1048576: true; the input reads as it did. -/
def topFuelUptoRow : OpenClaim := { program := "ytbdgcomjhblnfaadoor", sum := "1b2182e4f0e457a79fbebb479432d769127bda004664185aab259d5d741e740a", func := "flickerbook/flickerbooktop.TopFuel", spec := "topFuel", inPlace := ["slices.overlaps[flickerbook/api.Object]"], unfollowed := true, recurses := true, named := ["flickerbook/op.shapes"], apart := false, laid := [("flickerbook/op.shapes", laid_flickerbook_op_shapes)], narrowed := true }
def TopFuelUptoSaid : Prop := topFuelUptoRow.holds Tryd.pinned (OpenSpec.upto topFuelSpec)

/-- 'flickerbooktop.TopLoop', WHERE WHAT IT READS IS OF BULK AT MOST 1048576: true; the input reads as it did. -/
def topLoopUptoRow : OpenClaim := { program := "ytbdgcomjhblnfaadoor", sum := "1b2182e4f0e457a79fbebb479432d769127bda004664185aab259d5d741e740a", func := "flickerbook/flickerbooktop.TopLoop", spec := "topLoop", inPlace := ["slices.overlaps[flickerbook/api.Object]"], unfollowed := true, recurses := true, named := ["flickerbook/op.shapes"], apart := false, laid := [("flickerbook/op.shapes", laid_flickerbook_op_shapes)], narrowed := true }
def TopLoopUptoSaid : Prop := topLoopUptoRow.holds Tryd.pinned (OpenSpec.upto topLoopSpec)

/-- 'flickerbooktop.TopKept', WHERE WHAT IT READS IS OF BULK AT MOST 1048576: true; the input reads as it did. -/
def topKeptUptoRow : OpenClaim := { program := "ytbdgcomjhblnfaadoor", sum := "1b2182e4f0e457a79fbebb479432d769127bda004664185aab259d5d741e740a", func := "flickerbook/flickerbooktop.TopKept", spec := "topKept", inPlace := ["slices.overlaps[flickerbook/api.Object]"], unfollowed := true, recurses := true, named := ["flickerbook/op.shapes"], apart := false, laid := [("flickerbook/op.shapes", laid_flickerbook_op_shapes)], narrowed := true }
def TopKeptUptoSaid : Prop := topKeptUptoRow.holds Tryd.pinned (OpenSpec.upto topKeptSpec)

/-- 'flickerbooktop.TopFrames', WHERE WHAT IT READS IS OF BULK AT MOST 1048576: true; the input reads as it did. -/
def topFramesUptoRow : OpenClaim := { program := "ytbdgcomjhblnfaadoor", sum := "1b2182e4f0e457a79fbebb479432d769127bda004664185aab259d5d741e740a", func := "flickerbook/flickerbooktop.TopFrames", spec := "topFrames", inPlace := ["slices.overlaps[flickerbook/api.Object]"], unfollowed := true, recurses := true, named := ["flickerbook/op.shapes"], apart := false, laid := [("flickerbook/op.shapes", laid_flickerbook_op_shapes)], narrowed := true }
def TopFramesUptoSaid : Prop := topFramesUptoRow.holds Tryd.pinned (OpenSpec.upto topFramesSpec)

/-- 'flickerbooktop.TopStill', WHERE WHAT IT READS IS OF BULK AT MOST 1048576: true; the input reads as it did. -/
def topStillUptoRow : OpenClaim := { program := "ytbdgcomjhblnfaadoor", sum := "1b2182e4f0e457a79fbebb479432d769127bda004664185aab259d5d741e740a", func := "flickerbook/flickerbooktop.TopStill", spec := "topStill", inPlace := ["slices.overlaps[flickerbook/api.Object]"], unfollowed := true, recurses := true, named := ["flickerbook/op.shapes"], apart := false, laid := [("flickerbook/op.shapes", laid_flickerbook_op_shapes)], narrowed := true }
def TopStillUptoSaid : Prop := topStillUptoRow.holds Tryd.pinned (OpenSpec.upto topStillSpec)

/-- 'flickerbooktop.TopAway', WHERE WHAT IT READS IS OF BULK AT MOST 1048576: true; the input reads as it did. -/
def topAwayUptoRow : OpenClaim := { program := "ytbdgcomjhblnfaadoor", sum := "1b2182e4f0e457a79fbebb479432d769127bda004664185aab259d5d741e740a", func := "flickerbook/flickerbooktop.TopAway", spec := "topAway", inPlace := ["slices.overlaps[flickerbook/api.Object]"], unfollowed := true, recurses := true, named := ["flickerbook/op.shapes"], apart := false, laid := [("flickerbook/op.shapes", laid_flickerbook_op_shapes)], narrowed := true }
def TopAwayUptoSaid : Prop := topAwayUptoRow.holds Tryd.pinned (OpenSpec.upto topAwaySpec)

/-- 'flickerbooktop.TopMove', WHERE WHAT IT READS IS OF BULK AT MOST 1048576: true; the input reads as it did. -/
def topMoveUptoRow : OpenClaim := { program := "ytbdgcomjhblnfaadoor", sum := "1b2182e4f0e457a79fbebb479432d769127bda004664185aab259d5d741e740a", func := "flickerbook/flickerbooktop.TopMove", spec := "topMove", inPlace := ["slices.overlaps[flickerbook/api.Object]"], unfollowed := true, recurses := true, named := ["flickerbook/op.shapes"], apart := false, laid := [("flickerbook/op.shapes", laid_flickerbook_op_shapes)], narrowed := true }
def TopMoveUptoSaid : Prop := topMoveUptoRow.holds Tryd.pinned (OpenSpec.upto topMoveSpec)

/-- 'flickerbooktop.TopClose', WHERE WHAT IT READS IS OF BULK AT MOST 1048576: true; the input reads as it did. -/
def topCloseUptoRow : OpenClaim := { program := "ytbdgcomjhblnfaadoor", sum := "1b2182e4f0e457a79fbebb479432d769127bda004664185aab259d5d741e740a", func := "flickerbook/flickerbooktop.TopClose", spec := "topClose", inPlace := ["slices.overlaps[flickerbook/api.Object]"], unfollowed := true, recurses := true, named := ["flickerbook/op.shapes"], apart := false, laid := [("flickerbook/op.shapes", laid_flickerbook_op_shapes)], narrowed := true }
def TopCloseUptoSaid : Prop := topCloseUptoRow.holds Tryd.pinned (OpenSpec.upto topCloseSpec)

/-- 'flickerbooktop.TopBack', WHERE WHAT IT READS IS OF BULK AT MOST 1048576: true; the input reads as it did. -/
def topBackUptoRow : OpenClaim := { program := "ytbdgcomjhblnfaadoor", sum := "1b2182e4f0e457a79fbebb479432d769127bda004664185aab259d5d741e740a", func := "flickerbook/flickerbooktop.TopBack", spec := "topBack", inPlace := ["slices.overlaps[flickerbook/api.Object]"], unfollowed := true, recurses := true, named := ["flickerbook/op.shapes"], apart := false, laid := [("flickerbook/op.shapes", laid_flickerbook_op_shapes)], narrowed := true }
def TopBackUptoSaid : Prop := topBackUptoRow.holds Tryd.pinned (OpenSpec.upto topBackSpec)

/-- 'flickerbooktop.TopNest', WHERE WHAT IT READS IS OF BULK AT MOST 1048576: true; the input reads as it did. -/
def topNestUptoRow : OpenClaim := { program := "ytbdgcomjhblnfaadoor", sum := "1b2182e4f0e457a79fbebb479432d769127bda004664185aab259d5d741e740a", func := "flickerbook/flickerbooktop.TopNest", spec := "topNest", inPlace := ["slices.overlaps[flickerbook/api.Object]"], unfollowed := true, recurses := true, named := ["flickerbook/op.shapes"], apart := false, laid := [("flickerbook/op.shapes", laid_flickerbook_op_shapes)], narrowed := true }
def TopNestUptoSaid : Prop := topNestUptoRow.holds Tryd.pinned (OpenSpec.upto topNestSpec)

end Rows
end Go.Proofs.YtbdgcomjhblnfaaDoor
