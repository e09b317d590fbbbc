/-
  No cell of these rows narrows 'for every input' (looked for: loops, veiled, ifaces, maps, wideKeys, modest, calm, conditions, laid).
  DERIVED. THE GIVEN ROWS OF THIS SEAT. 5 by the template 'for every input the law returns true; each argument reads behind the call as it read before'; 0 by the template 'total and deterministic' (their statements: YtnjnelfmfijgjacTotals.lean).
  GIVEN WITH THE SEED: the statements are not yours to turn. If you find one false, say at which input.
  Laid BY PROGRAM, IN A SANDBOX (cutbox-rows.mjs): the forced cells as the released guide's own fill.sh prints them over the translation c370b8e32c6c1059… (all of the seat's roots in one cut). By AI agents, Wed Nov 11 2026. No macro, syntax, notation, axiom, sorry.
-/
import Derived.Test.YtnjnelfmfijgjacChecked
import GoSem.Claim
import GoSem.ClaimJoined
import GoSem.ClaimMapViews
import Derived.JoinedTies
import Derived.KernelRfl
namespace Go.Proofs.Ytnjnelfmfijgjac
/- THE CELL 'sum', in the pinned program and in every row, IS THE sha256 OF THE DUMP (.gsa) THAT YtnjnelfmfijgjacProg.lean LOADS. Nothing in Lean hashes anything: it is a label: what it is worth is what the hold of that sum in a sandbox is worth. -/
noncomputable def Try.pinned : Pinned := { name := "ytnjnelfmfijgjac", sum := "c370b8e32c6c10590bbbb5b04ad4c9939991d32d710cad0be1ded7b33c2f5dfb", checked := Try.checked }
namespace Rows
def none {H : Type} : Left H := { results := [], args := [] }

/-- 'flickerbooktop.TopRect': WHATEVER THE INPUT: true; the input reads as it did. -/
def topRectSpec : ChangeSpec := { name := "topRect", fn := fun _ => fun
  | [d1, d2, d3, d4] => { results := [.lit (.bool true)], args := [d1, d2, d3, d4] }
  | _ => none }
def topRectRow : OpenClaim := { program := "ytnjnelfmfijgjac", sum := "c370b8e32c6c10590bbbb5b04ad4c9939991d32d710cad0be1ded7b33c2f5dfb", func := "flickerbook/flickerbooktop.TopRect", spec := "topRect", apart := false }
def TopRectSaid : Prop := topRectRow.holds Try.pinned (OpenSpec.ofChange topRectSpec)

/-- ITS FALSE NEIGHBOUR: 'it returns false'. Refute it at one input. -/
def topRectWrong : ChangeSpec := { name := "topRect", fn := fun _ => fun
  | [d1, d2, d3, d4] => { results := [.lit (.bool false)], args := [d1, d2, d3, d4] }
  | _ => none }
def TopRectWrongFalsely : Prop := topRectRow.holds Try.pinned (OpenSpec.ofChange topRectWrong)

/-- 'flickerbooktop.TopOver': WHATEVER THE INPUT: true; the input reads as it did. -/
def topOverSpec : ChangeSpec := { name := "topOver", fn := fun _ => fun
  | [d1, d2] => { results := [.lit (.bool true)], args := [d1, d2] }
  | _ => none }
def topOverRow : OpenClaim := { program := "ytnjnelfmfijgjac", sum := "c370b8e32c6c10590bbbb5b04ad4c9939991d32d710cad0be1ded7b33c2f5dfb", func := "flickerbook/flickerbooktop.TopOver", spec := "topOver", apart := false }
def TopOverSaid : Prop := topOverRow.holds Try.pinned (OpenSpec.ofChange topOverSpec)

/-- ITS FALSE NEIGHBOUR: 'it returns false'. Refute it at one input. -/
def topOverWrong : ChangeSpec := { name := "topOver", fn := fun _ => fun
  | [d1, d2] => { results := [.lit (.bool false)], args := [d1, d2] }
  | _ => none }
def TopOverWrongFalsely : Prop := topOverRow.holds Try.pinned (OpenSpec.ofChange topOverWrong)

/-- 'flickerbooktop.TopLay': WHATEVER THE INPUT: true; the input reads as it did. -/
def topLaySpec : ChangeSpec := { name := "topLay", fn := fun _ => fun
  | [d1, d2] => { results := [.lit (.bool true)], args := [d1, d2] }
  | _ => none }
def topLayRow : OpenClaim := { program := "ytnjnelfmfijgjac", sum := "c370b8e32c6c10590bbbb5b04ad4c9939991d32d710cad0be1ded7b33c2f5dfb", func := "flickerbook/flickerbooktop.TopLay", spec := "topLay", unfollowed := true, recurses := true, apart := false }
def TopLaySaid : Prop := topLayRow.holds Try.pinned (OpenSpec.ofChange topLaySpec)

/-- ITS FALSE NEIGHBOUR: 'it returns false'. Refute it at one input. -/
def topLayWrong : ChangeSpec := { name := "topLay", fn := fun _ => fun
  | [d1, d2] => { results := [.lit (.bool false)], args := [d1, d2] }
  | _ => none }
def TopLayWrongFalsely : Prop := topLayRow.holds Try.pinned (OpenSpec.ofChange topLayWrong)

/-- 'flickerbooktop.TopAdd': WHATEVER THE INPUT: true; the input reads as it did. -/
def topAddSpec : ChangeSpec := { name := "topAdd", fn := fun _ => fun
  | [d1, d2, d3, d4, d5, d6, d7] => { results := [.lit (.bool true)], args := [d1, d2, d3, d4, d5, d6, d7] }
  | _ => none }
def topAddRow : OpenClaim := { program := "ytnjnelfmfijgjac", sum := "c370b8e32c6c10590bbbb5b04ad4c9939991d32d710cad0be1ded7b33c2f5dfb", func := "flickerbook/flickerbooktop.TopAdd", spec := "topAdd", unfollowed := true, recurses := true, apart := false }
def TopAddSaid : Prop := topAddRow.holds Try.pinned (OpenSpec.ofChange topAddSpec)

/-- ITS FALSE NEIGHBOUR: 'it returns false'. Refute it at one input. -/
def topAddWrong : ChangeSpec := { name := "topAdd", fn := fun _ => fun
  | [d1, d2, d3, d4, d5, d6, d7] => { results := [.lit (.bool false)], args := [d1, d2, d3, d4, d5, d6, d7] }
  | _ => none }
def TopAddWrongFalsely : Prop := topAddRow.holds Try.pinned (OpenSpec.ofChange topAddWrong)

/-- 'flickerbooktop.TopSeen': WHATEVER THE INPUT: true; the input reads as it did. -/
def topSeenSpec : ChangeSpec := { name := "topSeen", fn := fun _ => fun
  | [d1, d2, d3, d4, d5, d6] => { results := [.lit (.bool true)], args := [d1, d2, d3, d4, d5, d6] }
  | _ => none }
def topSeenRow : OpenClaim := { program := "ytnjnelfmfijgjac", sum := "c370b8e32c6c10590bbbb5b04ad4c9939991d32d710cad0be1ded7b33c2f5dfb", func := "flickerbook/flickerbooktop.TopSeen", spec := "topSeen", inPlace := ["slices.overlaps[flickerbook/api.Object]"], unfollowed := true, recurses := true, apart := false }
def TopSeenSaid : Prop := topSeenRow.holds Try.pinned (OpenSpec.ofChange topSeenSpec)

/-- ITS FALSE NEIGHBOUR: 'it returns false'. Refute it at one input. -/
def topSeenWrong : ChangeSpec := { name := "topSeen", fn := fun _ => fun
  | [d1, d2, d3, d4, d5, d6] => { results := [.lit (.bool false)], args := [d1, d2, d3, d4, d5, d6] }
  | _ => none }
def TopSeenWrongFalsely : Prop := topSeenRow.holds Try.pinned (OpenSpec.ofChange topSeenWrong)

/- THE SECOND FORM. 'bulk': how many values and letters a reading holds, each counted each time it is reached (what is shared counts as often as it is met; a slice's spare places count too). A statement '..UptoSaid' is the law's where the arguments, and the package variables that the reading takes, are together of bulk at most 1048576: NARROWER than '..Said'. Prove '..Said' where nothing that the law and all that it calls make is longer than what came in: it says more and counts as full. Else prove '..UptoSaid'. A law counts once. -/
mutual
def uptoBulk {H : Type} : DataW H → Nat
  | .lit (.string bytes) => bytes.length + 1
  | .lit _ => 1
  | .nil => 1
  | .ptr d => uptoBulk d + 1
  | .slice elems spare => uptoBulkAll elems + uptoBulkAll spare + 1
  | .agg parts => uptoBulkAll parts + 1
  | .iface _ d => uptoBulk d + 1
  | .map entries => uptoBulkEntries entries + 1
  | .held _ => 1
def uptoBulkAll {H : Type} : List (DataW H) → Nat
  | [] => 0
  | d :: r => uptoBulk d + uptoBulkAll r
def uptoBulkEntries {H : Type} : List (Lit × DataW H) → Nat
  | [] => 0
  | x :: r => uptoBulkEntry x + uptoBulkEntries r
def uptoBulkEntry {H : Type} : Lit × DataW H → Nat
  | (.string bytes, d) => bytes.length + uptoBulk d + 1
  | (_, d) => uptoBulk d + 1
 end
def uptoSmall : (H : Type) → List (DataW H) → Bool := fun _ ds => decide (uptoBulkAll ds ≤ 1048576)
def OpenSpec.upto (s : _root_.Go.ChangeSpec) : _root_.Go.OpenSpec := { _root_.Go.OpenSpec.ofChange s with cond := some uptoSmall }

/-- 'flickerbooktop.TopRect', WHERE WHAT IT READS IS OF BULK AT MOST 1048576: true; the input reads as it did. -/
def topRectUptoRow : OpenClaim := { program := "ytnjnelfmfijgjac", sum := "c370b8e32c6c10590bbbb5b04ad4c9939991d32d710cad0be1ded7b33c2f5dfb", func := "flickerbook/flickerbooktop.TopRect", spec := "topRect", apart := false, narrowed := true }
def TopRectUptoSaid : Prop := topRectUptoRow.holds Try.pinned (OpenSpec.upto topRectSpec)

/-- 'flickerbooktop.TopOver', WHERE WHAT IT READS IS OF BULK AT MOST 1048576: true; the input reads as it did. -/
def topOverUptoRow : OpenClaim := { program := "ytnjnelfmfijgjac", sum := "c370b8e32c6c10590bbbb5b04ad4c9939991d32d710cad0be1ded7b33c2f5dfb", func := "flickerbook/flickerbooktop.TopOver", spec := "topOver", apart := false, narrowed := true }
def TopOverUptoSaid : Prop := topOverUptoRow.holds Try.pinned (OpenSpec.upto topOverSpec)

/-- 'flickerbooktop.TopLay', WHERE WHAT IT READS IS OF BULK AT MOST 1048576: true; the input reads as it did. -/
def topLayUptoRow : OpenClaim := { program := "ytnjnelfmfijgjac", sum := "c370b8e32c6c10590bbbb5b04ad4c9939991d32d710cad0be1ded7b33c2f5dfb", func := "flickerbook/flickerbooktop.TopLay", spec := "topLay", unfollowed := true, recurses := true, apart := false, narrowed := true }
def TopLayUptoSaid : Prop := topLayUptoRow.holds Try.pinned (OpenSpec.upto topLaySpec)

/-- 'flickerbooktop.TopAdd', WHERE WHAT IT READS IS OF BULK AT MOST 1048576: true; the input reads as it did. -/
def topAddUptoRow : OpenClaim := { program := "ytnjnelfmfijgjac", sum := "c370b8e32c6c10590bbbb5b04ad4c9939991d32d710cad0be1ded7b33c2f5dfb", func := "flickerbook/flickerbooktop.TopAdd", spec := "topAdd", unfollowed := true, recurses := true, apart := false, narrowed := true }
def TopAddUptoSaid : Prop := topAddUptoRow.holds Try.pinned (OpenSpec.upto topAddSpec)

/-- 'flickerbooktop.TopSeen', WHERE WHAT IT READS IS OF BULK AT MOST 1048576: true; the input reads as it did. -/
def topSeenUptoRow : OpenClaim := { program := "ytnjnelfmfijgjac", sum := "c370b8e32c6c10590bbbb5b04ad4c9939991d32d710cad0be1ded7b33c2f5dfb", func := "flickerbook/flickerbooktop.TopSeen", spec := "topSeen", inPlace := ["slices.overlaps[flickerbook/api.Object]"], unfollowed := true, recurses := true, apart := false, narrowed := true }
def TopSeenUptoSaid : Prop := topSeenUptoRow.holds Try.pinned (OpenSpec.upto topSeenSpec)

end Rows
end Go.Proofs.Ytnjnelfmfijgjac
