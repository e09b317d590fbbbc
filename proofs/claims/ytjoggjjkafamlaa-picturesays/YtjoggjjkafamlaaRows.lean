/-
  No cell of these rows narrows 'for every input' (looked for: loops, veiled, ifaces, maps, wideKeys, modest, calm, conditions, laid).
  DERIVED. THE GIVEN ROWS OF THIS SEAT. 4 by the template 'for every input the law returns true; each argument reads behind the call as it read before'; 0 by the template 'total and deterministic' (their statements: YtjoggjjkafamlaaTotals.lean).
  GIVEN WITH THE SEED: the statements are not yours to turn. If you find one false, say at which input.
  Laid BY PROGRAM, IN A SANDBOX (cutbox-rows.mjs): the forced cells as the released guide's own fill.sh prints them over the translation 8a70a5578b88e682… (all of the seat's roots in one cut). By AI agents, Wed Nov 11 2026. No macro, syntax, notation, axiom, sorry.
-/
import Derived.Test.YtjoggjjkafamlaaChecked
import GoSem.Claim
import GoSem.ClaimJoined
import GoSem.ClaimMapViews
import Derived.JoinedTies
import Derived.KernelRfl
namespace Go.Proofs.Ytjoggjjkafamlaa
/- THE CELL 'sum', in the pinned program and in every row, IS THE sha256 OF THE DUMP (.gsa) THAT YtjoggjjkafamlaaProg.lean LOADS. Nothing in Lean hashes anything: it is a label: what it is worth is what the hold of that sum in a sandbox is worth. -/
noncomputable def Try.pinned : Pinned := { name := "ytjoggjjkafamlaa", sum := "8a70a5578b88e682fdd625214793867625cdc4c28d21e30718155a3055651317", checked := Try.checked }
namespace Rows
def none {H : Type} : Left H := { results := [], args := [] }

/-- 'flickerbooklaw.PackSays': WHATEVER THE INPUT: true; the input reads as it did. -/
def packSaysSpec : ChangeSpec := { name := "packSays", fn := fun _ => fun
  | [d1, d2, d3] => { results := [.lit (.bool true)], args := [d1, d2, d3] }
  | _ => none }
def packSaysRow : OpenClaim := { program := "ytjoggjjkafamlaa", sum := "8a70a5578b88e682fdd625214793867625cdc4c28d21e30718155a3055651317", func := "flickerbook/flickerbooklaw.PackSays", spec := "packSays", apart := false }
def PackSaysSaid : Prop := packSaysRow.holds Try.pinned (OpenSpec.ofChange packSaysSpec)

/-- ITS FALSE NEIGHBOUR: 'it returns false'. Refute it at one input. -/
def packSaysWrong : ChangeSpec := { name := "packSays", fn := fun _ => fun
  | [d1, d2, d3] => { results := [.lit (.bool false)], args := [d1, d2, d3] }
  | _ => none }
def PackSaysWrongFalsely : Prop := packSaysRow.holds Try.pinned (OpenSpec.ofChange packSaysWrong)

/-- 'flickerbooklaw.PictureSays': WHATEVER THE INPUT: true; the input reads as it did. -/
def pictureSaysSpec : ChangeSpec := { name := "pictureSays", fn := fun _ => fun
  | [d1, d2] => { results := [.lit (.bool true)], args := [d1, d2] }
  | _ => none }
def pictureSaysRow : OpenClaim := { program := "ytjoggjjkafamlaa", sum := "8a70a5578b88e682fdd625214793867625cdc4c28d21e30718155a3055651317", func := "flickerbook/flickerbooklaw.PictureSays", spec := "pictureSays", unfollowed := true, recurses := true, apart := false }
def PictureSaysSaid : Prop := pictureSaysRow.holds Try.pinned (OpenSpec.ofChange pictureSaysSpec)

/-- ITS FALSE NEIGHBOUR: 'it returns false'. Refute it at one input. -/
def pictureSaysWrong : ChangeSpec := { name := "pictureSays", fn := fun _ => fun
  | [d1, d2] => { results := [.lit (.bool false)], args := [d1, d2] }
  | _ => none }
def PictureSaysWrongFalsely : Prop := pictureSaysRow.holds Try.pinned (OpenSpec.ofChange pictureSaysWrong)

/-- 'flickerbooktop.TopPack': WHATEVER THE INPUT: true; the input reads as it did. -/
def topPackSpec : ChangeSpec := { name := "topPack", fn := fun _ => fun
  | [d] => { results := [.lit (.bool true)], args := [d] }
  | _ => none }
def topPackRow : OpenClaim := { program := "ytjoggjjkafamlaa", sum := "8a70a5578b88e682fdd625214793867625cdc4c28d21e30718155a3055651317", func := "flickerbook/flickerbooktop.TopPack", spec := "topPack", apart := false }
def TopPackSaid : Prop := topPackRow.holds Try.pinned (OpenSpec.ofChange topPackSpec)

/-- ITS FALSE NEIGHBOUR: 'it returns false'. Refute it at one input. -/
def topPackWrong : ChangeSpec := { name := "topPack", fn := fun _ => fun
  | [d] => { results := [.lit (.bool false)], args := [d] }
  | _ => none }
def TopPackWrongFalsely : Prop := topPackRow.holds Try.pinned (OpenSpec.ofChange topPackWrong)

/-- 'flickerbooktop.TopChunk': WHATEVER THE INPUT: true; the input reads as it did. -/
def topChunkSpec : ChangeSpec := { name := "topChunk", fn := fun _ => fun
  | [d1, d2, d3] => { results := [.lit (.bool true)], args := [d1, d2, d3] }
  | _ => none }
def topChunkRow : OpenClaim := { program := "ytjoggjjkafamlaa", sum := "8a70a5578b88e682fdd625214793867625cdc4c28d21e30718155a3055651317", func := "flickerbook/flickerbooktop.TopChunk", spec := "topChunk", apart := false }
def TopChunkSaid : Prop := topChunkRow.holds Try.pinned (OpenSpec.ofChange topChunkSpec)

/-- ITS FALSE NEIGHBOUR: 'it returns false'. Refute it at one input. -/
def topChunkWrong : ChangeSpec := { name := "topChunk", fn := fun _ => fun
  | [d1, d2, d3] => { results := [.lit (.bool false)], args := [d1, d2, d3] }
  | _ => none }
def TopChunkWrongFalsely : Prop := topChunkRow.holds Try.pinned (OpenSpec.ofChange topChunkWrong)

/- THE SECOND FORM. 'bulk': how many values and letters a reading holds, each counted each time it is reached (what is shared counts as often as it is met; a slice's spare places count too). A statement '..UptoSaid' is the law's where the arguments, and the package variables that the reading takes, are together of bulk at most 1048576: NARROWER than '..Said'. Prove '..Said' where nothing that the law and all that it calls make is longer than what came in: it says more and counts as full. Else prove '..UptoSaid'. A law counts once. -/
mutual
def uptoBulk {H : Type} : DataW H → Nat
  | .lit (.string bytes) => bytes.length + 1
  | .lit _ => 1
  | .nil => 1
  | .ptr d => uptoBulk d + 1
  | .slice elems spare => uptoBulkAll elems + uptoBulkAll spare + 1
  | .agg parts => uptoBulkAll parts + 1
  | .iface _ d => uptoBulk d + 1
  | .map entries => uptoBulkEntries entries + 1
  | .held _ => 1
def uptoBulkAll {H : Type} : List (DataW H) → Nat
  | [] => 0
  | d :: r => uptoBulk d + uptoBulkAll r
def uptoBulkEntries {H : Type} : List (Lit × DataW H) → Nat
  | [] => 0
  | x :: r => uptoBulkEntry x + uptoBulkEntries r
def uptoBulkEntry {H : Type} : Lit × DataW H → Nat
  | (.string bytes, d) => bytes.length + uptoBulk d + 1
  | (_, d) => uptoBulk d + 1
 end
def uptoSmall : (H : Type) → List (DataW H) → Bool := fun _ ds => decide (uptoBulkAll ds ≤ 1048576)
def OpenSpec.upto (s : _root_.Go.ChangeSpec) : _root_.Go.OpenSpec := { _root_.Go.OpenSpec.ofChange s with cond := some uptoSmall }

/-- 'flickerbooklaw.PackSays', WHERE WHAT IT READS IS OF BULK AT MOST 1048576: true; the input reads as it did. -/
def packSaysUptoRow : OpenClaim := { program := "ytjoggjjkafamlaa", sum := "8a70a5578b88e682fdd625214793867625cdc4c28d21e30718155a3055651317", func := "flickerbook/flickerbooklaw.PackSays", spec := "packSays", apart := false, narrowed := true }
def PackSaysUptoSaid : Prop := packSaysUptoRow.holds Try.pinned (OpenSpec.upto packSaysSpec)

/-- 'flickerbooklaw.PictureSays', WHERE WHAT IT READS IS OF BULK AT MOST 1048576: true; the input reads as it did. -/
def pictureSaysUptoRow : OpenClaim := { program := "ytjoggjjkafamlaa", sum := "8a70a5578b88e682fdd625214793867625cdc4c28d21e30718155a3055651317", func := "flickerbook/flickerbooklaw.PictureSays", spec := "pictureSays", unfollowed := true, recurses := true, apart := false, narrowed := true }
def PictureSaysUptoSaid : Prop := pictureSaysUptoRow.holds Try.pinned (OpenSpec.upto pictureSaysSpec)

/-- 'flickerbooktop.TopPack', WHERE WHAT IT READS IS OF BULK AT MOST 1048576: true; the input reads as it did. -/
def topPackUptoRow : OpenClaim := { program := "ytjoggjjkafamlaa", sum := "8a70a5578b88e682fdd625214793867625cdc4c28d21e30718155a3055651317", func := "flickerbook/flickerbooktop.TopPack", spec := "topPack", apart := false, narrowed := true }
def TopPackUptoSaid : Prop := topPackUptoRow.holds Try.pinned (OpenSpec.upto topPackSpec)

/-- 'flickerbooktop.TopChunk', WHERE WHAT IT READS IS OF BULK AT MOST 1048576: true; the input reads as it did. -/
def topChunkUptoRow : OpenClaim := { program := "ytjoggjjkafamlaa", sum := "8a70a5578b88e682fdd625214793867625cdc4c28d21e30718155a3055651317", func := "flickerbook/flickerbooktop.TopChunk", spec := "topChunk", apart := false, narrowed := true }
def TopChunkUptoSaid : Prop := topChunkUptoRow.holds Try.pinned (OpenSpec.upto topChunkSpec)

end Rows
end Go.Proofs.Ytjoggjjkafamlaa
