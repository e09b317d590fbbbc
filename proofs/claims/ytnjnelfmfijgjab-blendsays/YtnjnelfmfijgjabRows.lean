/-
  No cell of these rows narrows 'for every input' (looked for: loops, veiled, ifaces, maps, wideKeys, modest, calm, conditions, laid).
  DERIVED. THE GIVEN ROWS OF THIS SEAT. 6 by the template 'for every input the law returns true; each argument reads behind the call as it read before'; 0 by the template 'total and deterministic' (their statements: YtnjnelfmfijgjabTotals.lean).
  GIVEN WITH THE SEED: the statements are not yours to turn. If you find one false, say at which input.
  Laid BY PROGRAM, IN A SANDBOX (cutbox-rows.mjs): the forced cells as the released guide's own fill.sh prints them over the translation bb81779f9867ef05… (all of the seat's roots in one cut). By AI agents, Wed Nov 11 2026. No macro, syntax, notation, axiom, sorry.
-/
import Derived.Test.YtnjnelfmfijgjabChecked
import GoSem.Claim
import GoSem.ClaimJoined
import GoSem.ClaimMapViews
import Derived.JoinedTies
import Derived.KernelRfl
namespace Go.Proofs.Ytnjnelfmfijgjab
/- THE CELL 'sum', in the pinned program and in every row, IS THE sha256 OF THE DUMP (.gsa) THAT YtnjnelfmfijgjabProg.lean LOADS. Nothing in Lean hashes anything: it is a label: what it is worth is what the hold of that sum in a sandbox is worth. -/
noncomputable def Try.pinned : Pinned := { name := "ytnjnelfmfijgjab", sum := "bb81779f9867ef05953ed208ede16983d0f3e58fee843d670029cd8a77f20cf7", checked := Try.checked }
namespace Rows
def none {H : Type} : Left H := { results := [], args := [] }

/-- 'flickerbooktop.TopSum': WHATEVER THE INPUT: true; the input reads as it did. -/
def topSumSpec : ChangeSpec := { name := "topSum", fn := fun _ => fun
  | [d1, d2, d3, d4] => { results := [.lit (.bool true)], args := [d1, d2, d3, d4] }
  | _ => none }
def topSumRow : OpenClaim := { program := "ytnjnelfmfijgjab", sum := "bb81779f9867ef05953ed208ede16983d0f3e58fee843d670029cd8a77f20cf7", func := "flickerbook/flickerbooktop.TopSum", spec := "topSum", apart := false }
def TopSumSaid : Prop := topSumRow.holds Try.pinned (OpenSpec.ofChange topSumSpec)

/-- ITS FALSE NEIGHBOUR: 'it returns false'. Refute it at one input. -/
def topSumWrong : ChangeSpec := { name := "topSum", fn := fun _ => fun
  | [d1, d2, d3, d4] => { results := [.lit (.bool false)], args := [d1, d2, d3, d4] }
  | _ => none }
def TopSumWrongFalsely : Prop := topSumRow.holds Try.pinned (OpenSpec.ofChange topSumWrong)

/-- 'flickerbooktop.TopAll': WHATEVER THE INPUT: true; the input reads as it did. -/
def topAllSpec : ChangeSpec := { name := "topAll", fn := fun _ => fun
  | [d1, d2] => { results := [.lit (.bool true)], args := [d1, d2] }
  | _ => none }
def topAllRow : OpenClaim := { program := "ytnjnelfmfijgjab", sum := "bb81779f9867ef05953ed208ede16983d0f3e58fee843d670029cd8a77f20cf7", func := "flickerbook/flickerbooktop.TopAll", spec := "topAll", apart := false }
def TopAllSaid : Prop := topAllRow.holds Try.pinned (OpenSpec.ofChange topAllSpec)

/-- ITS FALSE NEIGHBOUR: 'it returns false'. Refute it at one input. -/
def topAllWrong : ChangeSpec := { name := "topAll", fn := fun _ => fun
  | [d1, d2] => { results := [.lit (.bool false)], args := [d1, d2] }
  | _ => none }
def TopAllWrongFalsely : Prop := topAllRow.holds Try.pinned (OpenSpec.ofChange topAllWrong)

/-- 'flickerbooktop.TopPicture': WHATEVER THE INPUT: true; the input reads as it did. -/
def topPictureSpec : ChangeSpec := { name := "topPicture", fn := fun _ => fun
  | [d] => { results := [.lit (.bool true)], args := [d] }
  | _ => none }
def topPictureRow : OpenClaim := { program := "ytnjnelfmfijgjab", sum := "bb81779f9867ef05953ed208ede16983d0f3e58fee843d670029cd8a77f20cf7", func := "flickerbook/flickerbooktop.TopPicture", spec := "topPicture", unfollowed := true, recurses := true, apart := false }
def TopPictureSaid : Prop := topPictureRow.holds Try.pinned (OpenSpec.ofChange topPictureSpec)

/-- ITS FALSE NEIGHBOUR: 'it returns false'. Refute it at one input. -/
def topPictureWrong : ChangeSpec := { name := "topPicture", fn := fun _ => fun
  | [d] => { results := [.lit (.bool false)], args := [d] }
  | _ => none }
def TopPictureWrongFalsely : Prop := topPictureRow.holds Try.pinned (OpenSpec.ofChange topPictureWrong)

/-- 'flickerbooklaw.RectSays': WHATEVER THE INPUT: true; the input reads as it did. -/
def rectSaysSpec : ChangeSpec := { name := "rectSays", fn := fun _ => fun
  | [d1, d2, d3, d4] => { results := [.lit (.bool true)], args := [d1, d2, d3, d4] }
  | _ => none }
def rectSaysRow : OpenClaim := { program := "ytnjnelfmfijgjab", sum := "bb81779f9867ef05953ed208ede16983d0f3e58fee843d670029cd8a77f20cf7", func := "flickerbook/flickerbooklaw.RectSays", spec := "rectSays", apart := false }
def RectSaysSaid : Prop := rectSaysRow.holds Try.pinned (OpenSpec.ofChange rectSaysSpec)

/-- ITS FALSE NEIGHBOUR: 'it returns false'. Refute it at one input. -/
def rectSaysWrong : ChangeSpec := { name := "rectSays", fn := fun _ => fun
  | [d1, d2, d3, d4] => { results := [.lit (.bool false)], args := [d1, d2, d3, d4] }
  | _ => none }
def RectSaysWrongFalsely : Prop := rectSaysRow.holds Try.pinned (OpenSpec.ofChange rectSaysWrong)

/-- 'flickerbooklaw.BlendSays': WHATEVER THE INPUT: true; the input reads as it did. -/
def blendSaysSpec : ChangeSpec := { name := "blendSays", fn := fun _ => fun
  | [d1, d2, d3, d4, d5, d6, d7] => { results := [.lit (.bool true)], args := [d1, d2, d3, d4, d5, d6, d7] }
  | _ => none }
def blendSaysRow : OpenClaim := { program := "ytnjnelfmfijgjab", sum := "bb81779f9867ef05953ed208ede16983d0f3e58fee843d670029cd8a77f20cf7", func := "flickerbook/flickerbooklaw.BlendSays", spec := "blendSays", unfollowed := true, recurses := true, apart := false }
def BlendSaysSaid : Prop := blendSaysRow.holds Try.pinned (OpenSpec.ofChange blendSaysSpec)

/-- ITS FALSE NEIGHBOUR: 'it returns false'. Refute it at one input. -/
def blendSaysWrong : ChangeSpec := { name := "blendSays", fn := fun _ => fun
  | [d1, d2, d3, d4, d5, d6, d7] => { results := [.lit (.bool false)], args := [d1, d2, d3, d4, d5, d6, d7] }
  | _ => none }
def BlendSaysWrongFalsely : Prop := blendSaysRow.holds Try.pinned (OpenSpec.ofChange blendSaysWrong)

/-- 'flickerbooklaw.ObjectsSays': WHATEVER THE INPUT: true; the input reads as it did. -/
def objectsSaysSpec : ChangeSpec := { name := "objectsSays", fn := fun _ => fun
  | [d1, d2, d3, d4, d5, d6] => { results := [.lit (.bool true)], args := [d1, d2, d3, d4, d5, d6] }
  | _ => none }
def objectsSaysRow : OpenClaim := { program := "ytnjnelfmfijgjab", sum := "bb81779f9867ef05953ed208ede16983d0f3e58fee843d670029cd8a77f20cf7", func := "flickerbook/flickerbooklaw.ObjectsSays", spec := "objectsSays", inPlace := ["slices.overlaps[flickerbook/api.Object]"], unfollowed := true, recurses := true, apart := false }
def ObjectsSaysSaid : Prop := objectsSaysRow.holds Try.pinned (OpenSpec.ofChange objectsSaysSpec)

/-- ITS FALSE NEIGHBOUR: 'it returns false'. Refute it at one input. -/
def objectsSaysWrong : ChangeSpec := { name := "objectsSays", fn := fun _ => fun
  | [d1, d2, d3, d4, d5, d6] => { results := [.lit (.bool false)], args := [d1, d2, d3, d4, d5, d6] }
  | _ => none }
def ObjectsSaysWrongFalsely : Prop := objectsSaysRow.holds Try.pinned (OpenSpec.ofChange objectsSaysWrong)

/- THE SECOND FORM. 'bulk': how many values and letters a reading holds, each counted each time it is reached (what is shared counts as often as it is met; a slice's spare places count too). A statement '..UptoSaid' is the law's where the arguments, and the package variables that the reading takes, are together of bulk at most 1048576: NARROWER than '..Said'. Prove '..Said' where nothing that the law and all that it calls make is longer than what came in: it says more and counts as full. Else prove '..UptoSaid'. A law counts once. -/
mutual
def uptoBulk {H : Type} : DataW H → Nat
  | .lit (.string bytes) => bytes.length + 1
  | .lit _ => 1
  | .nil => 1
  | .ptr d => uptoBulk d + 1
  | .slice elems spare => uptoBulkAll elems + uptoBulkAll spare + 1
  | .agg parts => uptoBulkAll parts + 1
  | .iface _ d => uptoBulk d + 1
  | .map entries => uptoBulkEntries entries + 1
  | .held _ => 1
def uptoBulkAll {H : Type} : List (DataW H) → Nat
  | [] => 0
  | d :: r => uptoBulk d + uptoBulkAll r
def uptoBulkEntries {H : Type} : List (Lit × DataW H) → Nat
  | [] => 0
  | x :: r => uptoBulkEntry x + uptoBulkEntries r
def uptoBulkEntry {H : Type} : Lit × DataW H → Nat
  | (.string bytes, d) => bytes.length + uptoBulk d + 1
  | (_, d) => uptoBulk d + 1
 end
def uptoSmall : (H : Type) → List (DataW H) → Bool := fun _ ds => decide (uptoBulkAll ds ≤ 1048576)
def OpenSpec.upto (s : _root_.Go.ChangeSpec) : _root_.Go.OpenSpec := { _root_.Go.OpenSpec.ofChange s with cond := some uptoSmall }

/-- 'flickerbooktop.TopSum', WHERE WHAT IT READS IS OF BULK AT MOST 1048576: true; the input reads as it did. -/
def topSumUptoRow : OpenClaim := { program := "ytnjnelfmfijgjab", sum := "bb81779f9867ef05953ed208ede16983d0f3e58fee843d670029cd8a77f20cf7", func := "flickerbook/flickerbooktop.TopSum", spec := "topSum", apart := false, narrowed := true }
def TopSumUptoSaid : Prop := topSumUptoRow.holds Try.pinned (OpenSpec.upto topSumSpec)

/-- 'flickerbooktop.TopAll', WHERE WHAT IT READS IS OF BULK AT MOST 1048576: true; the input reads as it did. -/
def topAllUptoRow : OpenClaim := { program := "ytnjnelfmfijgjab", sum := "bb81779f9867ef05953ed208ede16983d0f3e58fee843d670029cd8a77f20cf7", func := "flickerbook/flickerbooktop.TopAll", spec := "topAll", apart := false, narrowed := true }
def TopAllUptoSaid : Prop := topAllUptoRow.holds Try.pinned (OpenSpec.upto topAllSpec)

/-- 'flickerbooktop.TopPicture', WHERE WHAT IT READS IS OF BULK AT MOST 1048576: true; the input reads as it did. -/
def topPictureUptoRow : OpenClaim := { program := "ytnjnelfmfijgjab", sum := "bb81779f9867ef05953ed208ede16983d0f3e58fee843d670029cd8a77f20cf7", func := "flickerbook/flickerbooktop.TopPicture", spec := "topPicture", unfollowed := true, recurses := true, apart := false, narrowed := true }
def TopPictureUptoSaid : Prop := topPictureUptoRow.holds Try.pinned (OpenSpec.upto topPictureSpec)

/-- 'flickerbooklaw.RectSays', WHERE WHAT IT READS IS OF BULK AT MOST 1048576: true; the input reads as it did. -/
def rectSaysUptoRow : OpenClaim := { program := "ytnjnelfmfijgjab", sum := "bb81779f9867ef05953ed208ede16983d0f3e58fee843d670029cd8a77f20cf7", func := "flickerbook/flickerbooklaw.RectSays", spec := "rectSays", apart := false, narrowed := true }
def RectSaysUptoSaid : Prop := rectSaysUptoRow.holds Try.pinned (OpenSpec.upto rectSaysSpec)

/-- 'flickerbooklaw.BlendSays', WHERE WHAT IT READS IS OF BULK AT MOST 1048576: true; the input reads as it did. -/
def blendSaysUptoRow : OpenClaim := { program := "ytnjnelfmfijgjab", sum := "bb81779f9867ef05953ed208ede16983d0f3e58fee843d670029cd8a77f20cf7", func := "flickerbook/flickerbooklaw.BlendSays", spec := "blendSays", unfollowed := true, recurses := true, apart := false, narrowed := true }
def BlendSaysUptoSaid : Prop := blendSaysUptoRow.holds Try.pinned (OpenSpec.upto blendSaysSpec)

/-- 'flickerbooklaw.ObjectsSays', WHERE WHAT IT READS IS OF BULK AT MOST 1048576: true; the input reads as it did. -/
def objectsSaysUptoRow : OpenClaim := { program := "ytnjnelfmfijgjab", sum := "bb81779f9867ef05953ed208ede16983d0f3e58fee843d670029cd8a77f20cf7", func := "flickerbook/flickerbooklaw.ObjectsSays", spec := "objectsSays", inPlace := ["slices.overlaps[flickerbook/api.Object]"], unfollowed := true, recurses := true, apart := false, narrowed := true }
def ObjectsSaysUptoSaid : Prop := objectsSaysUptoRow.holds Try.pinned (OpenSpec.upto objectsSaysSpec)

end Rows
end Go.Proofs.Ytnjnelfmfijgjab
