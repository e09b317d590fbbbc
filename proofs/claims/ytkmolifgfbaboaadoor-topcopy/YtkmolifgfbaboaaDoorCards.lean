/-
  DERIVED. GIVEN WITH THE SEED: THE CARDS: each row of YtkmolifgfbaboaaDoorRows.lean that lists a variable, with what it lists TIED to the program's text (the seventh form; the later family's looks); each row that meets fmt, with fmt's text TOLD by the authors' own Lean function (tested against real Go, not proved from fmt's source: count such statements apart). THE CARD IS WHAT COUNTS. Prove the row's statement (the work); the ties are given (YtkmolifgfbaboaaDoorTie.lean); close each card by the builder's one call (the guide's Derived/Test/ToyasCard.lean, 'card_holds'). Laid BY PROGRAM, IN A SANDBOX (cutbox-door.mjs). By AI agents, Wed Nov 11 2026. No macro, syntax, notation, axiom, sorry.
-/
import Derived.Test.YtkmolifgfbaboaaDoorRows
import GoSem.ClaimSeven
namespace Go.Proofs.YtkmolifgfbaboaaDoor
namespace Rows

/-- THE TIED CARD OF 'flickerbooktop.TopOthers'. -/
def topOthersCard : Claim7 := { stood := { row := topOthersRow, standIns := [], harness := (true, "8cc1d3461a86e3978120c57aaecab017857a131959841ed599dedbdbec79acf3"), looks := true }, kinds := [], alts := [], laidByText := true, laidKinds := [.data], laidTests := true, laidLooks := .later }
def TopOthersCardSaid : Prop := Claim7.holds Tryd.pinned (.plain (OpenSpec.ofChange topOthersSpec)) topOthersCard

/-- THE TIED CARD OF 'flickerbooktop.TopCopy'. -/
def topCopyCard : Claim7 := { stood := { row := topCopyRow, standIns := [], harness := (true, "8cc1d3461a86e3978120c57aaecab017857a131959841ed599dedbdbec79acf3"), looks := true }, kinds := [], alts := [], laidByText := true, laidKinds := [.data], laidTests := true, laidLooks := .later }
def TopCopyCardSaid : Prop := Claim7.holds Tryd.pinned (.plain (OpenSpec.ofChange topCopySpec)) topCopyCard

/-- THE SECOND FORM's CARD OF 'flickerbooktop.TopOthers'. -/
def topOthersUptoCard : Claim7 := { stood := { row := topOthersUptoRow, standIns := [], harness := (true, "8cc1d3461a86e3978120c57aaecab017857a131959841ed599dedbdbec79acf3"), looks := true }, kinds := [], alts := [], laidByText := true, laidKinds := [.data], laidTests := true, laidLooks := .later }
def TopOthersUptoCardSaid : Prop := Claim7.holds Tryd.pinned (.plain (OpenSpec.upto topOthersSpec)) topOthersUptoCard

/-- THE SECOND FORM's CARD OF 'flickerbooktop.TopCopy'. -/
def topCopyUptoCard : Claim7 := { stood := { row := topCopyUptoRow, standIns := [], harness := (true, "8cc1d3461a86e3978120c57aaecab017857a131959841ed599dedbdbec79acf3"), looks := true }, kinds := [], alts := [], laidByText := true, laidKinds := [.data], laidTests := true, laidLooks := .later }
def TopCopyUptoCardSaid : Prop := Claim7.holds Tryd.pinned (.plain (OpenSpec.upto topCopySpec)) topCopyUptoCard
end Rows
end Go.Proofs.YtkmolifgfbaboaaDoor
