/-
  DERIVED. GIVEN WITH THE SEED: THE CARDS: each row of YtbdgcomjhblnfaaDoorRows.lean that lists a variable, with what it lists TIED to the program's text (the seventh form; the later family's looks); each row that meets fmt, with fmt's text TOLD by the authors' own Lean function (tested against real Go, not proved from fmt's source: count such statements apart). THE CARD IS WHAT COUNTS. Prove the row's statement (the work); the ties are given (YtbdgcomjhblnfaaDoorTie.lean); close each card by the builder's one call (the guide's Derived/Test/ToyasCard.lean, 'card_holds'). Laid BY PROGRAM, IN A SANDBOX (cutbox-door.mjs). By AI agents, Wed Nov 11 2026. No macro, syntax, notation, axiom, sorry.
-/
import Derived.Test.YtbdgcomjhblnfaaDoorRows
import GoSem.ClaimSeven
namespace Go.Proofs.YtbdgcomjhblnfaaDoor
namespace Rows

/-- THE TIED CARD OF 'flickerbooktop.TopFuel'. -/
def topFuelCard : Claim7 := { stood := { row := topFuelRow, standIns := [], harness := (true, "a04f691d06faca22866c080892212f5e32ecc08fa93453360c7a9c7c6be3bf76"), looks := true }, kinds := [], alts := [], laidByText := true, laidKinds := [.data], laidTests := true, laidLooks := .later }
def TopFuelCardSaid : Prop := Claim7.holds Tryd.pinned (.plain (OpenSpec.ofChange topFuelSpec)) topFuelCard

/-- THE TIED CARD OF 'flickerbooktop.TopLoop'. -/
def topLoopCard : Claim7 := { stood := { row := topLoopRow, standIns := [], harness := (true, "a04f691d06faca22866c080892212f5e32ecc08fa93453360c7a9c7c6be3bf76"), looks := true }, kinds := [], alts := [], laidByText := true, laidKinds := [.data], laidTests := true, laidLooks := .later }
def TopLoopCardSaid : Prop := Claim7.holds Tryd.pinned (.plain (OpenSpec.ofChange topLoopSpec)) topLoopCard

/-- THE TIED CARD OF 'flickerbooktop.TopKept'. -/
def topKeptCard : Claim7 := { stood := { row := topKeptRow, standIns := [], harness := (true, "a04f691d06faca22866c080892212f5e32ecc08fa93453360c7a9c7c6be3bf76"), looks := true }, kinds := [], alts := [], laidByText := true, laidKinds := [.data], laidTests := true, laidLooks := .later }
def TopKeptCardSaid : Prop := Claim7.holds Tryd.pinned (.plain (OpenSpec.ofChange topKeptSpec)) topKeptCard

/-- THE TIED CARD OF 'flickerbooktop.TopFrames'. -/
def topFramesCard : Claim7 := { stood := { row := topFramesRow, standIns := [], harness := (true, "a04f691d06faca22866c080892212f5e32ecc08fa93453360c7a9c7c6be3bf76"), looks := true }, kinds := [], alts := [], laidByText := true, laidKinds := [.data], laidTests := true, laidLooks := .later }
def TopFramesCardSaid : Prop := Claim7.holds Tryd.pinned (.plain (OpenSpec.ofChange topFramesSpec)) topFramesCard

/-- THE TIED CARD OF 'flickerbooktop.TopStill'. -/
def topStillCard : Claim7 := { stood := { row := topStillRow, standIns := [], harness := (true, "a04f691d06faca22866c080892212f5e32ecc08fa93453360c7a9c7c6be3bf76"), looks := true }, kinds := [], alts := [], laidByText := true, laidKinds := [.data], laidTests := true, laidLooks := .later }
def TopStillCardSaid : Prop := Claim7.holds Tryd.pinned (.plain (OpenSpec.ofChange topStillSpec)) topStillCard

/-- THE TIED CARD OF 'flickerbooktop.TopAway'. -/
def topAwayCard : Claim7 := { stood := { row := topAwayRow, standIns := [], harness := (true, "a04f691d06faca22866c080892212f5e32ecc08fa93453360c7a9c7c6be3bf76"), looks := true }, kinds := [], alts := [], laidByText := true, laidKinds := [.data], laidTests := true, laidLooks := .later }
def TopAwayCardSaid : Prop := Claim7.holds Tryd.pinned (.plain (OpenSpec.ofChange topAwaySpec)) topAwayCard

/-- THE TIED CARD OF 'flickerbooktop.TopMove'. -/
def topMoveCard : Claim7 := { stood := { row := topMoveRow, standIns := [], harness := (true, "a04f691d06faca22866c080892212f5e32ecc08fa93453360c7a9c7c6be3bf76"), looks := true }, kinds := [], alts := [], laidByText := true, laidKinds := [.data], laidTests := true, laidLooks := .later }
def TopMoveCardSaid : Prop := Claim7.holds Tryd.pinned (.plain (OpenSpec.ofChange topMoveSpec)) topMoveCard

/-- THE TIED CARD OF 'flickerbooktop.TopClose'. -/
def topCloseCard : Claim7 := { stood := { row := topCloseRow, standIns := [], harness := (true, "a04f691d06faca22866c080892212f5e32ecc08fa93453360c7a9c7c6be3bf76"), looks := true }, kinds := [], alts := [], laidByText := true, laidKinds := [.data], laidTests := true, laidLooks := .later }
def TopCloseCardSaid : Prop := Claim7.holds Tryd.pinned (.plain (OpenSpec.ofChange topCloseSpec)) topCloseCard

/-- THE TIED CARD OF 'flickerbooktop.TopBack'. -/
def topBackCard : Claim7 := { stood := { row := topBackRow, standIns := [], harness := (true, "a04f691d06faca22866c080892212f5e32ecc08fa93453360c7a9c7c6be3bf76"), looks := true }, kinds := [], alts := [], laidByText := true, laidKinds := [.data], laidTests := true, laidLooks := .later }
def TopBackCardSaid : Prop := Claim7.holds Tryd.pinned (.plain (OpenSpec.ofChange topBackSpec)) topBackCard

/-- THE TIED CARD OF 'flickerbooktop.TopNest'. -/
def topNestCard : Claim7 := { stood := { row := topNestRow, standIns := [], harness := (true, "a04f691d06faca22866c080892212f5e32ecc08fa93453360c7a9c7c6be3bf76"), looks := true }, kinds := [], alts := [], laidByText := true, laidKinds := [.data], laidTests := true, laidLooks := .later }
def TopNestCardSaid : Prop := Claim7.holds Tryd.pinned (.plain (OpenSpec.ofChange topNestSpec)) topNestCard

/-- THE SECOND FORM's CARD OF 'flickerbooktop.TopFuel'. -/
def topFuelUptoCard : Claim7 := { stood := { row := topFuelUptoRow, standIns := [], harness := (true, "a04f691d06faca22866c080892212f5e32ecc08fa93453360c7a9c7c6be3bf76"), looks := true }, kinds := [], alts := [], laidByText := true, laidKinds := [.data], laidTests := true, laidLooks := .later }
def TopFuelUptoCardSaid : Prop := Claim7.holds Tryd.pinned (.plain (OpenSpec.upto topFuelSpec)) topFuelUptoCard

/-- THE SECOND FORM's CARD OF 'flickerbooktop.TopLoop'. -/
def topLoopUptoCard : Claim7 := { stood := { row := topLoopUptoRow, standIns := [], harness := (true, "a04f691d06faca22866c080892212f5e32ecc08fa93453360c7a9c7c6be3bf76"), looks := true }, kinds := [], alts := [], laidByText := true, laidKinds := [.data], laidTests := true, laidLooks := .later }
def TopLoopUptoCardSaid : Prop := Claim7.holds Tryd.pinned (.plain (OpenSpec.upto topLoopSpec)) topLoopUptoCard

/-- THE SECOND FORM's CARD OF 'flickerbooktop.TopKept'. -/
def topKeptUptoCard : Claim7 := { stood := { row := topKeptUptoRow, standIns := [], harness := (true, "a04f691d06faca22866c080892212f5e32ecc08fa93453360c7a9c7c6be3bf76"), looks := true }, kinds := [], alts := [], laidByText := true, laidKinds := [.data], laidTests := true, laidLooks := .later }
def TopKeptUptoCardSaid : Prop := Claim7.holds Tryd.pinned (.plain (OpenSpec.upto topKeptSpec)) topKeptUptoCard

/-- THE SECOND FORM's CARD OF 'flickerbooktop.TopFrames'. -/
def topFramesUptoCard : Claim7 := { stood := { row := topFramesUptoRow, standIns := [], harness := (true, "a04f691d06faca22866c080892212f5e32ecc08fa93453360c7a9c7c6be3bf76"), looks := true }, kinds := [], alts := [], laidByText := true, laidKinds := [.data], laidTests := true, laidLooks := .later }
def TopFramesUptoCardSaid : Prop := Claim7.holds Tryd.pinned (.plain (OpenSpec.upto topFramesSpec)) topFramesUptoCard

/-- THE SECOND FORM's CARD OF 'flickerbooktop.TopStill'. -/
def topStillUptoCard : Claim7 := { stood := { row := topStillUptoRow, standIns := [], harness := (true, "a04f691d06faca22866c080892212f5e32ecc08fa93453360c7a9c7c6be3bf76"), looks := true }, kinds := [], alts := [], laidByText := true, laidKinds := [.data], laidTests := true, laidLooks := .later }
def TopStillUptoCardSaid : Prop := Claim7.holds Tryd.pinned (.plain (OpenSpec.upto topStillSpec)) topStillUptoCard

/-- THE SECOND FORM's CARD OF 'flickerbooktop.TopAway'. -/
def topAwayUptoCard : Claim7 := { stood := { row := topAwayUptoRow, standIns := [], harness := (true, "a04f691d06faca22866c080892212f5e32ecc08fa93453360c7a9c7c6be3bf76"), looks := true }, kinds := [], alts := [], laidByText := true, laidKinds := [.data], laidTests := true, laidLooks := .later }
def TopAwayUptoCardSaid : Prop := Claim7.holds Tryd.pinned (.plain (OpenSpec.upto topAwaySpec)) topAwayUptoCard

/-- THE SECOND FORM's CARD OF 'flickerbooktop.TopMove'. -/
def topMoveUptoCard : Claim7 := { stood := { row := topMoveUptoRow, standIns := [], harness := (true, "a04f691d06faca22866c080892212f5e32ecc08fa93453360c7a9c7c6be3bf76"), looks := true }, kinds := [], alts := [], laidByText := true, laidKinds := [.data], laidTests := true, laidLooks := .later }
def TopMoveUptoCardSaid : Prop := Claim7.holds Tryd.pinned (.plain (OpenSpec.upto topMoveSpec)) topMoveUptoCard

/-- THE SECOND FORM's CARD OF 'flickerbooktop.TopClose'. -/
def topCloseUptoCard : Claim7 := { stood := { row := topCloseUptoRow, standIns := [], harness := (true, "a04f691d06faca22866c080892212f5e32ecc08fa93453360c7a9c7c6be3bf76"), looks := true }, kinds := [], alts := [], laidByText := true, laidKinds := [.data], laidTests := true, laidLooks := .later }
def TopCloseUptoCardSaid : Prop := Claim7.holds Tryd.pinned (.plain (OpenSpec.upto topCloseSpec)) topCloseUptoCard

/-- THE SECOND FORM's CARD OF 'flickerbooktop.TopBack'. -/
def topBackUptoCard : Claim7 := { stood := { row := topBackUptoRow, standIns := [], harness := (true, "a04f691d06faca22866c080892212f5e32ecc08fa93453360c7a9c7c6be3bf76"), looks := true }, kinds := [], alts := [], laidByText := true, laidKinds := [.data], laidTests := true, laidLooks := .later }
def TopBackUptoCardSaid : Prop := Claim7.holds Tryd.pinned (.plain (OpenSpec.upto topBackSpec)) topBackUptoCard

/-- THE SECOND FORM's CARD OF 'flickerbooktop.TopNest'. -/
def topNestUptoCard : Claim7 := { stood := { row := topNestUptoRow, standIns := [], harness := (true, "a04f691d06faca22866c080892212f5e32ecc08fa93453360c7a9c7c6be3bf76"), looks := true }, kinds := [], alts := [], laidByText := true, laidKinds := [.data], laidTests := true, laidLooks := .later }
def TopNestUptoCardSaid : Prop := Claim7.holds Tryd.pinned (.plain (OpenSpec.upto topNestSpec)) topNestUptoCard
end Rows
end Go.Proofs.YtbdgcomjhblnfaaDoor
