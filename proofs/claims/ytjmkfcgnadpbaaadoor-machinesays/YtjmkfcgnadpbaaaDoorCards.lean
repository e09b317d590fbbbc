/-
  DERIVED. GIVEN WITH THE SEED: THE CARDS: each row of YtjmkfcgnadpbaaaDoorRows.lean that lists a variable, with what it lists TIED to the program's text (the seventh form; the later family's looks); each row that meets fmt, with fmt's text TOLD by the authors' own Lean function (tested against real Go, not proved from fmt's source: count such statements apart). THE CARD IS WHAT COUNTS. Prove the row's statement (the work); the ties are given (YtjmkfcgnadpbaaaDoorTie.lean); close each card by the builder's one call (the guide's Derived/Test/ToyasCard.lean, 'card_holds'). Laid BY PROGRAM, IN A SANDBOX (cutbox-door.mjs). By AI agents, Wed Nov 11 2026. No macro, syntax, notation, axiom, sorry.
-/
import Derived.Test.YtjmkfcgnadpbaaaDoorRows
import GoSem.ClaimSeven
namespace Go.Proofs.YtjmkfcgnadpbaaaDoor
namespace Rows

/-- THE TIED CARD OF 'flickerbooklaw.MachineSays'. -/
def machineSaysCard : Claim7 := { stood := { row := machineSaysRow, standIns := [], harness := (true, "6bb1eb074edf35165b225e09aab53f89a58590bf2397fa36aa14b2f0c8e00822"), looks := true }, kinds := [], alts := [], laidByText := true, laidKinds := [.data], laidTests := true, laidLooks := .later }
def MachineSaysCardSaid : Prop := Claim7.holds Tryd.pinned (.plain (OpenSpec.ofChange machineSaysSpec)) machineSaysCard

/-- THE SECOND FORM's CARD OF 'flickerbooklaw.MachineSays'. -/
def machineSaysUptoCard : Claim7 := { stood := { row := machineSaysUptoRow, standIns := [], harness := (true, "6bb1eb074edf35165b225e09aab53f89a58590bf2397fa36aa14b2f0c8e00822"), looks := true }, kinds := [], alts := [], laidByText := true, laidKinds := [.data], laidTests := true, laidLooks := .later }
def MachineSaysUptoCardSaid : Prop := Claim7.holds Tryd.pinned (.plain (OpenSpec.upto machineSaysSpec)) machineSaysUptoCard
end Rows
end Go.Proofs.YtjmkfcgnadpbaaaDoor
